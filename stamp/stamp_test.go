package stamp_test

import (
	"bytes"
	"math"
	"testing"

	"palfrey/api"
	"palfrey/blake"
	"palfrey/kdf"
	"palfrey/octets"
	"palfrey/stamp"
)

var root = api.Key{4, 31: 5}

var envelope = api.Envelope{From: 2, To: 6, Commit: api.Key{7, 31: 8}, Body: []byte("body")}

func relay(t *testing.T, ticks int) *stamp.Relay {
	t.Helper()
	r, e := stamp.New(root, ticks)
	if e != api.OK || r == nil {
		t.Fatal(e)
	}
	return r
}

// tagged is a stamp with its tag, computed from the layers below.
func tagged(s api.Stamp) api.Stamp {
	key := kdf.Draw(root, octets.High(uint64(s.Epoch), 4))
	var b []byte
	b = append(b, byte(s.From), byte(s.To))
	b = append(b, byte(s.Time>>24), byte(s.Time>>16), byte(s.Time>>8), byte(s.Time))
	b = append(b, s.Commit[:]...)
	s.Tag, _ = blake.Mac(key[:], b)
	return s
}

// P16.1
func TestNew(t *testing.T) {
	for _, ticks := range []int{0, -1, 1000001, math.MinInt, math.MaxInt} {
		if r, e := stamp.New(root, ticks); e != api.ErrArg || r != nil {
			t.Error(ticks, r, e)
		}
	}
	for _, ticks := range []int{1, 2, 1000000} {
		relay(t, ticks)
	}
}

// P16.1
func TestStamp(t *testing.T) {
	for _, ticks := range []int{1, 5, 10, 1000000} {
		r := relay(t, ticks)
		for _, now := range []int{0, 1, 4, 5, 7, 9, 10, 0x010203, 999999, 1000000, 7} {
			for _, from := range []int{0, 2, 7} {
				e := envelope
				e.From = from
				want := tagged(api.Stamp{Epoch: now / ticks, From: from, To: 6, Time: now, Commit: envelope.Commit})
				got, no := r.Stamp(e, now)
				if no != api.OK || got != want {
					t.Error(ticks, now, got, no)
				}
			}
		}
	}
	// Neither the head nor the body counts, nor that both ends are the same.
	r := relay(t, 5)
	got, no := r.Stamp(api.Envelope{From: 3, To: 3, Head: api.Head{N: -1}, Body: make([]byte, 1000)}, 3)
	if no != api.OK || got != tagged(api.Stamp{From: 3, To: 3, Time: 3}) {
		t.Error(got, no)
	}
}

// P16.1
func TestStampErrors(t *testing.T) {
	r := relay(t, 5)
	for _, now := range []int{-1, 1000001, math.MinInt, math.MaxInt} {
		if s, e := r.Stamp(envelope, now); e != api.ErrArg || s != (api.Stamp{}) {
			t.Error(now, s, e)
		}
	}
	for _, n := range []int{-1, 8, 256, math.MaxInt} {
		for _, e := range []api.Envelope{{From: n, To: 1}, {From: 1, To: n}} {
			if s, e := r.Stamp(e, 1); e != api.ErrArg || s != (api.Stamp{}) {
				t.Error(n, s, e)
			}
		}
	}
}

// P16.2, P16.4
func TestCheckWindow(t *testing.T) {
	for _, ticks := range []int{1, 5, 1000} {
		r := relay(t, ticks)
		for _, time := range []int{0, 7, 499, 500, 999950, 999960, 1000000} {
			s, _ := r.Stamp(envelope, time)
			for _, now := range []int{0, time - 51, time - 1, time, time + 1, time + 49, time + 50, time + 51, time + 1000, 1000000} {
				if now < 0 || now > 1000000 {
					if e := r.Check(s, now); e != api.ErrArg {
						t.Error(time, now, e)
					}
					continue
				}
				want := api.OK
				if now < time || now > time+50 {
					want = api.ErrOld
				}
				if e := r.Check(s, now); e != want {
					t.Error(ticks, time, now, e)
				}
				// Another relay with the same root says the same.
				if e := relay(t, ticks).Check(s, now); e != want {
					t.Error(ticks, time, now, e)
				}
			}
		}
	}
}

// P16.2
func TestCheckArg(t *testing.T) {
	r := relay(t, 5)
	good, _ := r.Stamp(envelope, 7)
	for _, now := range []int{-1, 1000001, math.MinInt, math.MaxInt} {
		if e := r.Check(good, now); e != api.ErrArg {
			t.Error(now, e)
		}
	}
	for _, n := range []int{-1, 1000001, math.MinInt, math.MaxInt} {
		for i := range 2 {
			s := good
			if i == 0 {
				s.Epoch = n
			} else {
				s.Time = n
			}
			if e := r.Check(s, 7); e != api.ErrArg {
				t.Error(n, i, e)
			}
		}
	}
	for _, n := range []int{-1, 8, 256} {
		for i := range 2 {
			s := good
			if i == 0 {
				s.From = n
			} else {
				s.To = n
			}
			if e := r.Check(s, 7); e != api.ErrArg {
				t.Error(n, i, e)
			}
		}
	}
}

// P16.2, P16.4: a change of any field is seen, and comes ahead of what is past.
func TestCheckChanged(t *testing.T) {
	r := relay(t, 5)
	good, _ := r.Stamp(envelope, 7)
	fails := func(what string, s api.Stamp) {
		t.Helper()
		for _, now := range []int{0, 7, 57, 58, 1000000} {
			if e := r.Check(s, now); e != api.ErrMac {
				t.Error(what, now, e)
			}
		}
	}
	for _, n := range []int{0, 2, 1000000} {
		s := good
		s.Epoch = n
		fails("epoch", s)
		// The tag is that of this epoch, but the time is not in it.
		fails("epoch and tag", tagged(s))
	}
	for n := range 8 {
		s := good
		if s.From = n; s != good {
			fails("from", s)
		}
		s = good
		if s.To = n; s != good {
			fails("to", s)
		}
	}
	s := good
	s.From, s.To = s.To, s.From
	fails("ends", s)
	for _, n := range []int{0, 5, 6, 8, 9, 10, 1000000} {
		s := good
		s.Time = n
		fails("time", s)
		s.Epoch = n / 5
		fails("time and epoch", s)
	}
	for bit := range 256 {
		s := good
		s.Commit[bit/8] ^= 1 << (bit % 8)
		fails("commit", s)
		s = good
		s.Tag[bit/8] ^= 1 << (bit % 8)
		fails("tag", s)
	}
	other, _ := stamp.New(api.Key{1}, 5)
	if e := other.Check(good, 7); e != api.ErrMac {
		t.Error("another root", e)
	}
	if e := relay(t, 4).Check(good, 7); e != api.OK {
		t.Error("the same epoch, by other ticks", e)
	}
	if e := relay(t, 10).Check(good, 7); e != api.ErrMac {
		t.Error("another epoch, by other ticks", e)
	}
	if e := r.Check(good, 7); e != api.OK {
		t.Error(e)
	}
}

var stamps = []api.Stamp{
	{},
	{Epoch: 1, From: 2, To: 3, Time: 4, Commit: api.Key{5, 31: 6}, Tag: api.Key{7, 31: 8}},
	{Epoch: 1000000, From: 7, To: 7, Time: 1000000, Commit: api.Key{255}, Tag: api.Key{31: 255}},
	{Epoch: 0x010203, Time: 0x040506},
}

// P16.3
func TestBytes(t *testing.T) {
	b, e := stamp.Bytes(stamps[3])
	if e != api.OK || !bytes.Equal(b[:10], []byte{0, 1, 2, 3, 0, 0, 0, 4, 5, 6}) {
		t.Error(b, e)
	}
	s := stamps[1]
	want := []byte{0, 0, 0, 1, 2, 3, 0, 0, 0, 4}
	want = append(want, s.Commit[:]...)
	want = append(want, s.Tag[:]...)
	if b, e := stamp.Bytes(s); e != api.OK || !bytes.Equal(b, want) || len(b) != 74 {
		t.Error(b, e)
	}
	for _, s := range []api.Stamp{{Epoch: -1}, {Epoch: 1000001}, {Time: -1}, {Time: 1000001}, {From: -1}, {From: 8}, {To: -1}, {To: 8}, {Epoch: 1 << 32}, {Time: 1 << 32}, {From: 256}, {To: 256}} {
		if b, e := stamp.Bytes(s); e != api.ErrArg || len(b) != 0 {
			t.Error(s, b, e)
		}
	}
}

// P16.3
func TestRead(t *testing.T) {
	for _, s := range stamps {
		b, _ := stamp.Bytes(s)
		if got, e := stamp.Read(b); e != api.OK || got != s {
			t.Error(got, e)
		}
		for n := range b {
			if got, e := stamp.Read(b[:n]); e != api.ErrShort || got != (api.Stamp{}) {
				t.Error(n, got, e)
			}
		}
		for _, more := range []int{1, 74} {
			if got, e := stamp.Read(append(bytes.Clone(b), make([]byte, more)...)); e != api.ErrForm || got != (api.Stamp{}) {
				t.Error(more, got, e)
			}
		}
	}
	for _, c := range []struct {
		at    int
		bytes []byte
	}{
		{0, []byte{0, 0x0f, 0x42, 0x41}}, {0, []byte{0x80, 0, 0, 0}}, {0, []byte{255, 255, 255, 255}},
		{4, []byte{8}}, {4, []byte{255}}, {5, []byte{8}}, {5, []byte{255}},
		{6, []byte{0, 0x0f, 0x42, 0x41}}, {6, []byte{0x80, 0, 0, 0}}, {6, []byte{255, 255, 255, 255}},
	} {
		b, _ := stamp.Bytes(stamps[1])
		copy(b[c.at:], c.bytes)
		if got, e := stamp.Read(b); e != api.ErrForm || got != (api.Stamp{}) {
			t.Error(c, got, e)
		}
		if got, e := stamp.Read(b[:73]); e != api.ErrShort || got != (api.Stamp{}) {
			t.Error(c, got, e)
		}
	}
}
