package octets_test

import (
	"bytes"
	"encoding/binary"
	"math"
	"testing"

	"palfrey/api"
	"palfrey/octets"
)

// P1.1
func TestSame(t *testing.T) {
	long := bytes.Repeat([]byte{7}, 100)
	for _, c := range []struct {
		a, b []byte
		want bool
	}{
		{nil, nil, true},
		{nil, []byte{}, true},
		{[]byte{}, []byte{0}, false},
		{[]byte{0}, nil, false},
		{[]byte{1, 2}, []byte{1, 2}, true},
		{[]byte{1, 2}, []byte{2, 1}, false},
		{[]byte{1, 2}, []byte{1, 2, 0}, false},
		{[]byte{1, 2, 3}, []byte{1, 2}, false},
		{long, bytes.Clone(long), true},
		{[]byte{1, 1}, []byte{0, 0}, false},
	} {
		if got := octets.Same(c.a, c.b); got != c.want {
			t.Errorf("Same(%v, %v) = %v", c.a, c.b, got)
		}
	}
	for i := range long {
		for bit := range 8 {
			other := bytes.Clone(long)
			other[i] ^= 1 << bit
			if octets.Same(long, other) {
				t.Errorf("a difference at byte %d, bit %d is not seen", i, bit)
			}
		}
	}
	// Two differences that cancel each other in a sum or an exclusive or.
	if octets.Same([]byte{1, 1}, []byte{3, 3}) || octets.Same([]byte{1, 3}, []byte{3, 1}) {
		t.Error("two differences are not seen")
	}
}

// P1.1
func TestXor(t *testing.T) {
	a, b := []byte{0, 255, 0x0f, 0xaa}, []byte{0, 255, 0xff, 0x55}
	got, e := octets.Xor(a, b)
	if e != api.OK || !bytes.Equal(got, []byte{0, 0, 0xf0, 0xff}) {
		t.Error(got, e)
	}
	if !bytes.Equal(a, []byte{0, 255, 0x0f, 0xaa}) || !bytes.Equal(b, []byte{0, 255, 0xff, 0x55}) {
		t.Error("an argument was changed")
	}
	got[0] = 9
	if a[0] != 0 || b[0] != 0 {
		t.Error("the result shares memory with an argument")
	}
	for _, c := range [][2][]byte{{nil, {1}}, {{1}, nil}, {{1, 2}, {1}}, {{1}, {1, 2}}} {
		if got, e := octets.Xor(c[0], c[1]); e != api.ErrArg || len(got) != 0 {
			t.Error(c, got, e)
		}
	}
	if got, e := octets.Xor(nil, []byte{}); e != api.OK || len(got) != 0 {
		t.Error(got, e)
	}
}

var numbers = []uint64{0, 1, 2, 255, 256, 258, 65535, 65536, 0x0102030405060708, 1 << 63, math.MaxUint64, math.MaxUint32}

// P1.2
func TestLowHigh(t *testing.T) {
	for _, n := range numbers {
		low := binary.LittleEndian.AppendUint64(nil, n)
		high := binary.BigEndian.AppendUint64(nil, n)
		for _, many := range []int{math.MinInt, -1, 0, 1, 2, 3, 4, 5, 6, 7, 8, 9, 64, math.MaxInt} {
			size := many
			if many < 1 {
				size = 0
			}
			if many > 8 {
				size = 8
			}
			if got := octets.Low(n, many); !bytes.Equal(got, low[:size]) {
				t.Errorf("Low(%d, %d) = %v", n, many, got)
			}
			if got := octets.High(n, many); !bytes.Equal(got, high[8-size:]) {
				t.Errorf("High(%d, %d) = %v", n, many, got)
			}
		}
	}
	if got := octets.Low(258, 3); !bytes.Equal(got, []byte{2, 1, 0}) {
		t.Error(got)
	}
	if got := octets.High(258, 3); !bytes.Equal(got, []byte{0, 1, 2}) {
		t.Error(got)
	}
}

// P1.2
func TestOfLowOfHigh(t *testing.T) {
	b := []byte{1, 2, 3, 4, 5, 6, 7, 8, 9, 10}
	kept := bytes.Clone(b)
	lows := []uint64{0, 0x01, 0x0201, 0x030201, 0x04030201, 0x0504030201, 0x060504030201, 0x07060504030201, 0x0807060504030201, 0x0807060504030201, 0x0807060504030201}
	highs := []uint64{0, 0x01, 0x0102, 0x010203, 0x01020304, 0x0102030405, 0x010203040506, 0x01020304050607, 0x0102030405060708, 0x0102030405060708, 0x0102030405060708}
	for n := range lows {
		if got := octets.OfLow(b[:n]); got != lows[n] {
			t.Errorf("OfLow of %d bytes: %x", n, got)
		}
		if got := octets.OfHigh(b[:n]); got != highs[n] {
			t.Errorf("OfHigh of %d bytes: %x", n, got)
		}
	}
	if octets.OfLow(nil) != 0 || octets.OfHigh(nil) != 0 {
		t.Error("no bytes are not 0")
	}
	if !bytes.Equal(b, kept) {
		t.Error("the argument was changed")
	}
	for _, n := range numbers {
		if octets.OfLow(octets.Low(n, 8)) != n || octets.OfHigh(octets.High(n, 8)) != n {
			t.Error("not inverse for", n)
		}
	}
	ones := bytes.Repeat([]byte{255}, 9)
	if octets.OfLow(ones) != math.MaxUint64 || octets.OfHigh(ones) != math.MaxUint64 {
		t.Error("the highest number")
	}
}

var lists = [][][]byte{
	{},
	{nil},
	{{}, {}},
	{[]byte("ab")},
	{[]byte("a"), []byte("b")},
	{[]byte("ab"), nil, []byte("c")},
	{{0, 0, 0, 0}},
	{{0, 0, 0, 2, 97, 98}},
	{bytes.Repeat([]byte{5}, 70000), {1}},
	{bytes.Repeat([]byte{6}, 256)},
}

// P1.3
func TestJoin(t *testing.T) {
	if got := octets.Join([]byte("ab")); !bytes.Equal(got, []byte{0, 0, 0, 2, 97, 98}) {
		t.Error(got)
	}
	if got := octets.Join([]byte("ab"), nil, []byte("c")); string(got) != "\x00\x00\x00\x02ab\x00\x00\x00\x00\x00\x00\x00\x01c" {
		t.Errorf("%q", got)
	}
	if got := octets.Join(); len(got) != 0 {
		t.Error(got)
	}
	if got := octets.Join(bytes.Repeat([]byte{6}, 66051)); len(got) != 66055 || !bytes.Equal(got[:4], []byte{0, 1, 2, 3}) {
		t.Error(got[:4])
	}
	a := []byte("ab")
	octets.Join(a)[4] = 'x'
	if string(a) != "ab" {
		t.Error("the result shares memory with an argument")
	}
}

// P1.3
func TestPartShort(t *testing.T) {
	for _, c := range []string{"\x00", "\x00\x00\x00", "\x00\x00\x00\x01", "\x00\x00\x00\x02a", "\xff\xff\xff\xff", "\xff\xff\xff\xffab", "\x80\x00\x00\x00a", "\x7f\xff\xff\xff", "\x00\x00\x00\x01ab", "\x00\x00\x00\x00\x00"} {
		if got, e := octets.Part([]byte(c)); e != api.ErrShort || len(got) != 0 {
			t.Errorf("%q: %v %v", c, got, e)
		}
	}
}

// P1.3: the parts are the caller's, and none of them reaches into another one.
func TestPartIsNew(t *testing.T) {
	b := octets.Join([]byte("ab"), []byte("cd"))
	kept := bytes.Clone(b)
	l, e := octets.Part(b)
	if e != api.OK || len(l) != 2 {
		t.Fatal(l, e)
	}
	l[0][0] = 'x'
	_ = append(l[0], "yyyyyyyy"...)
	if !bytes.Equal(b, kept) || string(l[1]) != "cd" {
		t.Error("memory is shared")
	}
}

// P1.4
func TestJoinPartInverse(t *testing.T) {
	seen := map[string]int{}
	for i, l := range lists {
		b := octets.Join(l...)
		if j, is := seen[string(b)]; is && len(lists[j]) != len(l) {
			t.Errorf("lists %d and %d have the same Join", i, j)
		}
		seen[string(b)] = i
		got, e := octets.Part(b)
		if e != api.OK || len(got) != len(l) {
			t.Fatal(i, len(got), e)
		}
		for k := range l {
			if !bytes.Equal(got[k], l[k]) {
				t.Errorf("list %d, element %d", i, k)
			}
		}
		if !bytes.Equal(octets.Join(got...), b) {
			t.Error("Join of Part differs", i)
		}
		// Every proper prefix is a Join only where it ends with an element.
		ends := map[int]bool{0: true}
		at := 0
		for _, x := range l {
			at += 4 + len(x)
			ends[at] = true
		}
		for n := range min(len(b), 300) {
			if _, e := octets.Part(b[:n]); (e == api.OK) != ends[n] {
				t.Errorf("list %d, prefix %d: %v", i, n, e)
			}
		}
	}
	if bytes.Equal(octets.Join([]byte("ab")), octets.Join([]byte("a"), []byte("b"))) {
		t.Error("different lists, same Join")
	}
}

// P1.4
func TestXorTwice(t *testing.T) {
	a := make([]byte, 256)
	b := make([]byte, 256)
	for i := range a {
		a[i], b[i] = byte(i), byte(i*37+11)
	}
	once, _ := octets.Xor(a, b)
	twice, e := octets.Xor(once, b)
	if e != api.OK || !bytes.Equal(twice, a) || bytes.Equal(once, a) {
		t.Error("Xor twice does not restore the bytes")
	}
}
