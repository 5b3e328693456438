package skips_test

import (
	"math"
	"math/rand"
	"testing"

	"palfrey/api"
	"palfrey/skips"
)

func key(n int) api.Key { return api.Key{byte(n), byte(n >> 8), 1} }

func put(t *testing.T, s *skips.Store, public, n, k int) {
	t.Helper()
	if e := s.Put(key(public), n, key(k)); e != api.OK {
		t.Fatal(public, n, e)
	}
}

func taken(t *testing.T, s *skips.Store, public, n, k int) {
	t.Helper()
	if got, is := s.Take(key(public), n); !is || got != key(k) {
		t.Error(public, n, got, is)
	}
}

func absent(t *testing.T, s *skips.Store, public, n int) {
	t.Helper()
	if got, is := s.Take(key(public), n); is || got != (api.Key{}) {
		t.Error(public, n, got, is)
	}
}

// P11.1
func TestPutErrors(t *testing.T) {
	s := skips.New()
	if s.Len() != 0 {
		t.Error("a new store is not empty")
	}
	for _, n := range []int{-1, math.MinInt} {
		if e := s.Put(key(1), n, key(2)); e != api.ErrArg {
			t.Error(n, e)
		}
	}
	put(t, s, 1, 0, 10)
	if e := s.Put(key(1), 0, key(11)); e != api.ErrTwice {
		t.Error(e)
	}
	if e := s.Put(key(1), 0, key(10)); e != api.ErrTwice {
		t.Error(e)
	}
	if s.Len() != 1 {
		t.Error(s.Len())
	}
	// Another number, and another public key, are another place.
	put(t, s, 1, math.MaxInt, 12)
	put(t, s, 2, 0, 13)
	taken(t, s, 1, 0, 10)
	taken(t, s, 1, math.MaxInt, 12)
	taken(t, s, 2, 0, 13)
}

// P11.1
func TestFirstGoes(t *testing.T) {
	s := skips.New()
	// The order of insertion counts, not that of the numbers or keys.
	for i := range 8 {
		put(t, s, 9-i, 100-i, i)
	}
	if s.Len() != 8 {
		t.Error(s.Len())
	}
	put(t, s, 50, 50, 50)
	if s.Len() != 8 {
		t.Error(s.Len())
	}
	absent(t, s, 9, 100)
	put(t, s, 51, 51, 51)
	if s.Len() != 8 {
		t.Error(s.Len())
	}
	absent(t, s, 8, 99)
	for i := 2; i < 8; i++ {
		taken(t, s, 9-i, 100-i, i)
	}
	taken(t, s, 50, 50, 50)
	taken(t, s, 51, 51, 51)
	if s.Len() != 0 {
		t.Error(s.Len())
	}
}

// P11.1: a full store that refuses a key lets none go.
func TestRefusedPutKeepsAll(t *testing.T) {
	s := skips.New()
	for i := range 8 {
		put(t, s, 1, i, i)
	}
	if e := s.Put(key(1), 3, key(9)); e != api.ErrTwice {
		t.Error(e)
	}
	if e := s.Put(key(1), -1, key(9)); e != api.ErrArg {
		t.Error(e)
	}
	for i := range 8 {
		taken(t, s, 1, i, i)
	}
}

// P11.1: a key that was taken and put again counts as put at the later time.
func TestPutAgain(t *testing.T) {
	s := skips.New()
	for i := range 8 {
		put(t, s, 1, i, i)
	}
	taken(t, s, 1, 0, 0)
	put(t, s, 1, 0, 20)
	put(t, s, 1, 8, 8)
	absent(t, s, 1, 1)
	taken(t, s, 1, 0, 20)
	taken(t, s, 1, 2, 2)
}

// P11.2, P11.3
func TestTakeOnce(t *testing.T) {
	s := skips.New()
	absent(t, s, 1, 0)
	absent(t, s, 1, -1)
	put(t, s, 1, 5, 7)
	absent(t, s, 1, 4)
	absent(t, s, 2, 5)
	taken(t, s, 1, 5, 7)
	absent(t, s, 1, 5)
	if s.Len() != 0 {
		t.Error(s.Len())
	}
	// The zero key is a key as well.
	if e := s.Put(api.Key{}, 0, api.Key{}); e != api.OK {
		t.Error(e)
	}
	if got, is := s.Take(api.Key{}, 0); !is || got != (api.Key{}) {
		t.Error(got, is)
	}
}

// P11.2
func TestCopy(t *testing.T) {
	s := skips.New()
	for i := range 8 {
		put(t, s, 1, 7-i, i)
	}
	c := s.Copy()
	if c.Len() != 8 {
		t.Error(c.Len())
	}
	taken(t, s, 1, 3, 4)
	put(t, s, 2, 0, 30)
	taken(t, s, 2, 0, 30)
	if c.Len() != 8 || s.Len() != 7 {
		t.Error(c.Len(), s.Len())
	}
	// The same order of insertion: 7 was put first, then 6.
	put(t, c, 2, 0, 40)
	absent(t, c, 1, 7)
	put(t, c, 2, 1, 41)
	put(t, c, 2, 2, 42)
	absent(t, c, 1, 6)
	absent(t, c, 1, 5)
	taken(t, c, 1, 3, 4)
	taken(t, s, 1, 7, 0)
	absent(t, s, 2, 1)
	empty := skips.New().Copy()
	put(t, empty, 1, 1, 1)
	taken(t, empty, 1, 1, 1)
}

// P11.3: against a list that is as plain as can be.
func TestAgainstList(t *testing.T) {
	type row struct{ public, n, k int }
	r := rand.New(rand.NewSource(11))
	s := skips.New()
	var list []row
	find := func(public, n int) int {
		for i, x := range list {
			if x.public == public && x.n == n {
				return i
			}
		}
		return -1
	}
	for step := range 20000 {
		public, n, k := r.Intn(3), r.Intn(8), step%60000
		i := find(public, n)
		switch r.Intn(5) {
		case 0:
			got, is := s.Take(key(public), n)
			if is != (i >= 0) || is && got != key(list[i].k) {
				t.Fatal(step, got, is)
			}
			if is {
				list = append(list[:i], list[i+1:]...)
			}
		case 1:
			s = s.Copy()
		default:
			e := s.Put(key(public), n, key(k))
			if (e == api.ErrTwice) != (i >= 0) || e != api.OK && e != api.ErrTwice {
				t.Fatal(step, e)
			}
			if e == api.OK {
				list = append(list, row{public, n, k})
				if len(list) > 8 {
					list = list[1:]
				}
			}
		}
		if s.Len() != len(list) || s.Len() > 8 {
			t.Fatal(step, s.Len(), len(list))
		}
	}
}
