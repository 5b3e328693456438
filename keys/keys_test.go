package keys_test

import (
	"testing"

	"palfrey/api"
	"palfrey/blake"
	"palfrey/curve"
	"palfrey/kdf"
	"palfrey/keys"
	"palfrey/octets"
)

var seeds = [][]byte{nil, []byte("a"), []byte("b"), make([]byte, 200)}

// P8.1
func TestPair(t *testing.T) {
	seen := map[api.Key]bool{}
	for _, seed := range seeds {
		p := keys.Pair(seed)
		if p.Secret != blake.Sum(seed) || p.Public != curve.Base(p.Secret) {
			t.Errorf("%q: %x", seed, p)
		}
		if seen[p.Secret] {
			t.Error("the same pair for two seeds")
		}
		seen[p.Secret] = true
	}
	if keys.Pair(nil) != keys.Pair([]byte{}) {
		t.Error("nil and empty differ")
	}
}

// P8.1
func TestCommon(t *testing.T) {
	a, b := keys.Pair([]byte("a")), keys.Pair([]byte("b"))
	got, e := keys.Common(a, b.Public)
	if e != api.OK || got != curve.Mult(a.Secret, b.Public) {
		t.Error(got, e)
	}
	// The own public key does not count.
	for _, public := range []api.Key{{}, {1}, b.Public} {
		if other, e := keys.Common(api.Pair{Secret: a.Secret, Public: public}, b.Public); e != api.OK || other != got {
			t.Error(other, e)
		}
	}
	prime := api.Key{0: 0xed, 31: 0x7f}
	for i := 1; i < 31; i++ {
		prime[i] = 0xff
	}
	for _, public := range []api.Key{{}, {1}, {31: 0x80}, prime} {
		if got, e := keys.Common(a, public); e != api.ErrKey || got != (api.Key{}) {
			t.Errorf("%x: %x %v", public, got, e)
		}
	}
	if got, e := keys.Common(api.Pair{}, b.Public); e != api.OK || got != curve.Mult(api.Key{}, b.Public) {
		t.Error(got, e)
	}
}

// P8.2
func TestSource(t *testing.T) {
	for _, seed := range seeds {
		s := keys.New(seed)
		root := blake.Sum(seed)
		for n := range 300 {
			if s.Many() != n {
				t.Fatal(s.Many(), n)
			}
			want := kdf.Draw(root, octets.High(uint64(n), 8))
			if n%100 == 7 {
				if got := s.Pair(); got != keys.Pair(want[:]) {
					t.Fatalf("pair %d: %x", n, got)
				}
			} else if got := s.Key(); got != want {
				t.Fatalf("key %d: %x", n, got)
			}
		}
		if s.Many() != 300 {
			t.Error(s.Many())
		}
	}
}

// P8.2
func TestFirst(t *testing.T) {
	if keys.New(nil).Many() != 0 {
		t.Error("a new source has told keys")
	}
	k := keys.New([]byte("x")).Key()
	if keys.New([]byte("x")).Pair() != keys.Pair(k[:]) {
		t.Error("the first pair is not that of the first key")
	}
}

// P8.2: what becomes of the seed's memory has no effect, even ahead of the first key.
func TestSeedIsCopied(t *testing.T) {
	seed := []byte("seed")
	s := keys.New(seed)
	seed[0] = 'x'
	if s.Key() != keys.New([]byte("seed")).Key() {
		t.Error("the seed is shared")
	}
	if string(seed) != "xeed" {
		t.Error("the seed was changed")
	}
}

// P8.3
func TestSymmetric(t *testing.T) {
	s := keys.New([]byte("symmetric"))
	for range 10 {
		a, b := s.Pair(), s.Pair()
		one, e := keys.Common(a, b.Public)
		two, f := keys.Common(b, a.Public)
		if e != api.OK || f != api.OK || one != two {
			t.Error(one, two, e, f)
		}
	}
}

// P8.3
func TestSameSeed(t *testing.T) {
	a, b, c := keys.New([]byte("s")), keys.New([]byte("s")), keys.New([]byte("t"))
	seen := map[api.Key]bool{}
	for range 50 {
		k, other := a.Key(), c.Key()
		if k != b.Key() || k == other {
			t.Error("keys of sources")
		}
		if seen[k] || seen[other] {
			t.Error("the same key twice")
		}
		seen[k], seen[other] = true, true
	}
}
