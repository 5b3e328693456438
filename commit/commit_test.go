package commit_test

import (
	"bytes"
	"testing"

	"palfrey/api"
	"palfrey/blake"
	"palfrey/commit"
	"palfrey/octets"
)

var opening = api.Key{1, 2, 31: 3}

func lists() [][][]byte {
	return [][][]byte{
		{},
		{nil},
		{nil, nil},
		{[]byte("a"), []byte("b")},
		{[]byte("ab")},
		{[]byte("ab"), nil},
		{nil, []byte("ab")},
		{bytes.Repeat([]byte{7}, 300)},
	}
}

// P14.1
func TestMake(t *testing.T) {
	for _, k := range []api.Key{{}, opening} {
		for i, l := range lists() {
			want, _ := blake.Mac(k[:], octets.Join(l...))
			if got := commit.Make(k, l...); got != want {
				t.Error(i, got)
			}
		}
	}
}

// P14.1, P14.3
func TestCheck(t *testing.T) {
	for i, l := range lists() {
		c := commit.Make(opening, l...)
		if e := commit.Check(c, opening, l...); e != api.OK {
			t.Error(i, e)
		}
		for bit := range 256 {
			other := c
			other[bit/8] ^= 1 << (bit % 8)
			if e := commit.Check(other, opening, l...); e != api.ErrMac {
				t.Error(i, bit, e)
			}
			key := opening
			key[bit/8] ^= 1 << (bit % 8)
			if e := commit.Check(c, key, l...); e != api.ErrMac {
				t.Error(i, bit, e)
			}
		}
		for j, m := range lists() {
			if e := commit.Check(c, opening, m...); (e == api.OK) != (i == j) {
				t.Error(i, j, e)
			}
		}
	}
	if e := commit.Check(opening, opening); e != api.ErrMac {
		t.Error(e)
	}
}

// P14.2
func TestPack(t *testing.T) {
	text := []byte("text")
	got := commit.Pack(opening, text)
	if len(got) != 36 || !bytes.Equal(got[:32], opening[:]) || string(got[32:]) != "text" {
		t.Error(got)
	}
	got[32] = 'x'
	if string(text) != "text" {
		t.Error("the result shares memory with the argument")
	}
	if !bytes.Equal(commit.Pack(opening, nil), opening[:]) {
		t.Error("an empty text")
	}
}

// P14.2, P14.3
func TestUnpack(t *testing.T) {
	for n := range 32 {
		if k, text, e := commit.Unpack(make([]byte, n)); e != api.ErrShort || k != (api.Key{}) || len(text) != 0 {
			t.Error(n, k, text, e)
		}
	}
	for _, text := range []string{"", "a", "text", string(make([]byte, 300))} {
		b := commit.Pack(opening, []byte(text))
		kept := bytes.Clone(b)
		k, got, e := commit.Unpack(b)
		if e != api.OK || k != opening || string(got) != text {
			t.Error(k, got, e)
		}
		if !bytes.Equal(commit.Pack(k, got), b) {
			t.Error("not inverse")
		}
		for i := range got {
			got[i] ^= 1
		}
		if !bytes.Equal(b, kept) {
			t.Error("the result shares memory with the argument")
		}
	}
}
