package head_test

import (
	"bytes"
	"math"
	"reflect"
	"testing"

	"palfrey/api"
	"palfrey/head"
)

var public = api.Key{0: 1, 1: 2, 30: 3, 31: 4}

var heads = []api.Head{
	{},
	{Public: public, Prev: 1, N: 2},
	{Public: public, Prev: 0x010203, N: 0x040506},
	{Public: public, Prev: 1000000, N: 1000000},
	{Prev: 255, N: 256},
}

var badHeads = []api.Head{
	{Prev: -1}, {N: -1}, {Prev: 1000001}, {N: 1000001}, {Prev: math.MinInt}, {N: math.MaxInt}, {Prev: 1 << 32}, {N: 1<<32 + 5},
}

func envelopes() []api.Envelope {
	return []api.Envelope{
		{},
		{From: 1, To: 2, Commit: api.Key{5, 31: 6}, Head: heads[1], Body: []byte("ab")},
		{From: 7, To: 0, Commit: api.Key{9}, Head: heads[3], Body: bytes.Repeat([]byte{7}, 600)},
		{From: 3, To: 3, Head: heads[2], Body: bytes.Repeat([]byte{0}, 256)},
		{From: 0, To: 7, Head: heads[4], Body: []byte{255}},
	}
}

// P12.1
func TestBytes(t *testing.T) {
	b, e := head.Bytes(heads[2])
	want := append(append([]byte(nil), public[:]...), 0, 1, 2, 3, 0, 4, 5, 6)
	if e != api.OK || !bytes.Equal(b, want) {
		t.Error(b, e)
	}
	b, e = head.Bytes(heads[3])
	want = append(append([]byte(nil), public[:]...), 0, 0x0f, 0x42, 0x40, 0, 0x0f, 0x42, 0x40)
	if e != api.OK || !bytes.Equal(b, want) {
		t.Error(b, e)
	}
	for _, h := range badHeads {
		if b, e := head.Bytes(h); e != api.ErrArg || len(b) != 0 {
			t.Error(h.Prev, h.N, b, e)
		}
	}
}

// P12.1, P12.3
func TestReadHead(t *testing.T) {
	for _, h := range heads {
		b, e := head.Bytes(h)
		if e != api.OK || len(b) != 40 {
			t.Fatal(len(b), e)
		}
		if got, e := head.Read(b); e != api.OK || got != h {
			t.Error(got, e)
		}
		for n := range b {
			if got, e := head.Read(b[:n]); e != api.ErrShort || got != (api.Head{}) {
				t.Error(n, got, e)
			}
		}
		for _, more := range [][]byte{{0}, make([]byte, 40)} {
			if got, e := head.Read(append(bytes.Clone(b), more...)); e != api.ErrForm || got != (api.Head{}) {
				t.Error(got, e)
			}
		}
	}
	if _, e := head.Read(nil); e != api.ErrShort {
		t.Error(e)
	}
}

// P12.1
func TestReadHeadForm(t *testing.T) {
	good, _ := head.Bytes(heads[3])
	for _, at := range []int{32, 36} {
		for _, number := range [][]byte{{0, 0x0f, 0x42, 0x41}, {0xff, 0xff, 0xff, 0xff}, {0x80, 0, 0, 0}, {1, 0, 0, 0}} {
			b := bytes.Clone(good)
			copy(b[at:], number)
			if got, e := head.Read(b); e != api.ErrForm || got != (api.Head{}) {
				t.Error(at, number, got, e)
			}
			// Too short comes first.
			if _, e := head.Read(b[:39]); e != api.ErrShort {
				t.Error(at, number, e)
			}
		}
	}
}

// P12.2
func TestEnvelope(t *testing.T) {
	x := envelopes()[1]
	b, e := head.Envelope(x)
	h, _ := head.Bytes(x.Head)
	want := []byte{1, 2}
	want = append(want, x.Commit[:]...)
	want = append(want, h...)
	want = append(want, 0, 2, 'a', 'b')
	if e != api.OK || !bytes.Equal(b, want) || len(b) != 78 {
		t.Error(b, e)
	}
	x = envelopes()[2]
	b, e = head.Envelope(x)
	if e != api.OK || len(b) != 676 || b[74] != 2 || b[75] != 88 {
		t.Error(len(b), e)
	}
	b[80] ^= 1
	if !reflect.DeepEqual(x, envelopes()[2]) {
		t.Error("the result shares memory with the argument")
	}
}

// P12.2
func TestEnvelopeErrors(t *testing.T) {
	for _, change := range []func(*api.Envelope){
		func(x *api.Envelope) { x.From = -1 },
		func(x *api.Envelope) { x.From = 8 },
		func(x *api.Envelope) { x.From = 256 },
		func(x *api.Envelope) { x.To = -1 },
		func(x *api.Envelope) { x.To = 8 },
		func(x *api.Envelope) { x.To = math.MaxInt },
		func(x *api.Envelope) { x.Body = make([]byte, 601) },
		func(x *api.Envelope) { x.Body = make([]byte, 70000) },
	} {
		x := envelopes()[1]
		change(&x)
		if b, e := head.Envelope(x); e != api.ErrArg || len(b) != 0 {
			t.Error(x.From, x.To, len(x.Body), b, e)
		}
	}
	for _, h := range badHeads {
		x := envelopes()[1]
		x.Head = h
		if b, e := head.Envelope(x); e != api.ErrArg || len(b) != 0 {
			t.Error(h.Prev, h.N, b, e)
		}
	}
}

// P12.2, P12.3
func TestReadEnvelope(t *testing.T) {
	for i, x := range envelopes() {
		b, e := head.Envelope(x)
		if e != api.OK {
			t.Fatal(e)
		}
		kept := bytes.Clone(b)
		got, e := head.ReadEnvelope(b)
		if e != api.OK || got.From != x.From || got.To != x.To || got.Commit != x.Commit || got.Head != x.Head || !bytes.Equal(got.Body, x.Body) {
			t.Error(i, got, e)
		}
		again, e := head.Envelope(got)
		if e != api.OK || !bytes.Equal(again, b) {
			t.Error("not the same bytes again", i)
		}
		for n := range b {
			if got, e := head.ReadEnvelope(b[:n]); e != api.ErrShort || !reflect.DeepEqual(got, api.Envelope{}) {
				t.Error(i, n, got, e)
			}
		}
		if got, e := head.ReadEnvelope(append(bytes.Clone(b), 0)); e != api.ErrForm || !reflect.DeepEqual(got, api.Envelope{}) {
			t.Error(i, got, e)
		}
		for k := range got.Body {
			got.Body[k] ^= 1
		}
		if !bytes.Equal(b, kept) {
			t.Error("the result shares memory with the argument", i)
		}
	}
}

// P12.2
func TestReadEnvelopeForm(t *testing.T) {
	good, _ := head.Envelope(envelopes()[1])
	for _, c := range []struct {
		at    int
		bytes []byte
	}{
		{0, []byte{8}}, {0, []byte{255}}, {1, []byte{8}}, {1, []byte{128}},
		{66, []byte{0, 0x0f, 0x42, 0x41}}, {66, []byte{0xff}}, {70, []byte{0, 0x0f, 0x42, 0x41}}, {70, []byte{0xff}},
		{74, []byte{0, 1}}, {74, []byte{0, 0}},
	} {
		b := bytes.Clone(good)
		copy(b[c.at:], c.bytes)
		if got, e := head.ReadEnvelope(b); e != api.ErrForm || !reflect.DeepEqual(got, api.Envelope{}) {
			t.Error(c.at, c.bytes, got, e)
		}
		// Too short comes first, whatever else is wrong.
		if c.at < 74 {
			for _, n := range []int{1, 2, 75, 76, 77} {
				if _, e := head.ReadEnvelope(b[:n]); e != api.ErrShort {
					t.Error(c.at, n, e)
				}
			}
		}
	}
	// A body of more than 600 bytes: too short while it is not all there, else of another form.
	for _, size := range []int{601, 65535} {
		b := append(bytes.Clone(good[:74]), byte(size>>8), byte(size))
		for _, n := range []int{0, 600, size - 1} {
			if _, e := head.ReadEnvelope(append(bytes.Clone(b), make([]byte, n)...)); e != api.ErrShort {
				t.Error(size, n, e)
			}
		}
		for _, n := range []int{size, size + 1} {
			if _, e := head.ReadEnvelope(append(bytes.Clone(b), make([]byte, n)...)); e != api.ErrForm {
				t.Error(size, n, e)
			}
		}
	}
}
