package seal_test

import (
	"bytes"
	"testing"

	"palfrey/api"
	"palfrey/blake"
	"palfrey/chacha"
	"palfrey/kdf"
	"palfrey/octets"
	"palfrey/seal"
)

var sizes = []int{0, 1, 5, 31, 32, 63, 64, 65, 300}

func text(n int) []byte {
	b := make([]byte, n)
	for i := range b {
		b[i] = byte(i*3 + 1)
	}
	return b
}

// P5.1
func TestClose(t *testing.T) {
	for _, k := range []api.Key{{}, {1, 2, 3}, {31: 9}} {
		for _, n := range sizes {
			for _, beside := range [][]byte{nil, []byte("beside"), text(100)} {
				b := text(n)
				got := seal.Close(k, beside, b)
				two := kdf.Keys(k, "turn", "tag")
				turned := chacha.Turn(two[0], [12]byte{}, 0, b)
				tag, _ := blake.Mac(two[1][:], octets.Join(k[:], beside, turned))
				if !bytes.Equal(got, append(turned, tag[:]...)) {
					t.Error(k, n, len(beside))
				}
				if !bytes.Equal(b, text(n)) {
					t.Error("the argument was changed")
				}
			}
		}
	}
	if n := len(seal.Close(api.Key{}, nil, text(5))); n != 37 {
		t.Error(n)
	}
}

// P5.2, P5.3
func TestOpen(t *testing.T) {
	k := api.Key{7, 8, 9}
	for _, n := range sizes {
		for _, beside := range [][]byte{nil, []byte("beside")} {
			c := seal.Close(k, beside, text(n))
			kept := bytes.Clone(c)
			got, e := seal.Open(k, beside, c)
			if e != api.OK || !bytes.Equal(got, text(n)) {
				t.Error(n, e)
			}
			if !bytes.Equal(c, kept) {
				t.Error("the argument was changed")
			}
			if !bytes.Equal(seal.Close(k, beside, got), c) {
				t.Error("what was opened is closed to other bytes")
			}
			for i := range got {
				got[i] ^= 1
			}
			if !bytes.Equal(c, kept) {
				t.Error("the result shares memory with the argument")
			}
		}
	}
	if got, e := seal.Open(k, nil, seal.Close(k, []byte{}, nil)); e != api.OK || len(got) != 0 {
		t.Error(got, e)
	}
}

// P5.2
func TestOpenShort(t *testing.T) {
	for n := range 32 {
		if got, e := seal.Open(api.Key{}, nil, make([]byte, n)); e != api.ErrShort || len(got) != 0 {
			t.Error(n, got, e)
		}
		if got, e := seal.Tag(make([]byte, n)); e != api.ErrShort || got != (api.Key{}) {
			t.Error(n, got, e)
		}
	}
	if _, e := seal.Open(api.Key{}, nil, make([]byte, 32)); e != api.ErrMac {
		t.Error(e)
	}
}

// P5.2: every bit of the key, of the associated data and of the bytes counts.
func TestOpenChanged(t *testing.T) {
	k, beside := api.Key{1, 2, 3}, []byte("beside")
	c := seal.Close(k, beside, text(40))
	fails := func(what string, i int, k api.Key, beside, c []byte) {
		t.Helper()
		if got, e := seal.Open(k, beside, c); e != api.ErrMac || len(got) != 0 {
			t.Error(what, i, got, e)
		}
	}
	for i := range 8 * len(c) {
		other := bytes.Clone(c)
		other[i/8] ^= 1 << (i % 8)
		fails("bytes", i, k, beside, other)
	}
	for i := range 8 * len(k) {
		other := k
		other[i/8] ^= 1 << (i % 8)
		fails("key", i, other, beside, c)
	}
	for i := range 8 * len(beside) {
		other := bytes.Clone(beside)
		other[i/8] ^= 1 << (i % 8)
		fails("beside", i, k, other, c)
	}
	fails("no beside", 0, k, nil, c)
	fails("longer beside", 0, k, append(bytes.Clone(beside), 0), c)
	fails("shorter", 0, k, beside, c[1:])
	fails("longer", 0, k, beside, append([]byte{0}, c...))
	fails("without its end", 0, k, beside, c[:len(c)-1])
	// A byte that moves from the associated data to the encrypted bytes.
	fails("moved", 0, k, beside[:5], append([]byte{beside[5]}, c...))
}

// P5.2
func TestTag(t *testing.T) {
	for _, n := range sizes {
		c := seal.Close(api.Key{4}, []byte("x"), text(n))
		got, e := seal.Tag(c)
		if e != api.OK || !bytes.Equal(got[:], c[n:]) {
			t.Error(n, e)
		}
	}
	want := api.Key{0: 1, 31: 2}
	if got, e := seal.Tag(append([]byte{5, 6}, want[:]...)); e != api.OK || got != want {
		t.Error(got, e)
	}
}

// P5.1: a slice with room behind it is not written to.
func TestNeighbours(t *testing.T) {
	room := bytes.Repeat([]byte{0xee}, 200)
	c := seal.Close(api.Key{1}, room[20:30], room[:10])
	if _, e := seal.Open(api.Key{1}, room[20:30], c); e != api.OK {
		t.Error(e)
	}
	if !bytes.Equal(room, bytes.Repeat([]byte{0xee}, 200)) {
		t.Error("a neighbour was changed")
	}
}
