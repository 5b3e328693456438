package frame_test

import (
	"bytes"
	"reflect"
	"testing"

	"palfrey/api"
	"palfrey/commit"
	"palfrey/frame"
	"palfrey/keys"
	"palfrey/octets"
	"palfrey/ratchet"
)

var opening = api.Key{1, 2, 31: 3}

func sessions(t *testing.T) (a, b *ratchet.Session) {
	t.Helper()
	signed := keys.Pair([]byte("signed"))
	a, e := ratchet.Begin(api.Key{5}, signed.Public, keys.New([]byte("a")))
	if e != api.OK {
		t.Fatal(e)
	}
	return a, ratchet.Answer(api.Key{5}, signed, keys.New([]byte("b")))
}

// lines are both ends of a line between 2, who began, and 6.
func lines(t *testing.T) (a, b *frame.Line) {
	t.Helper()
	s, r := sessions(t)
	a, e := frame.New(s, 2, 6)
	if e != api.OK {
		t.Fatal(e)
	}
	b, e = frame.New(r, 6, 2)
	if e != api.OK {
		t.Fatal(e)
	}
	return a, b
}

func wrap(t *testing.T, l *frame.Line, k api.Key, text string) api.Envelope {
	t.Helper()
	e, no := l.Wrap(k, []byte(text))
	if no != api.OK {
		t.Fatal(text, no)
	}
	return e
}

func unwrap(t *testing.T, l *frame.Line, e api.Envelope, k api.Key, text string) {
	t.Helper()
	got, open, no := l.Unwrap(e)
	if no != api.OK || string(got) != text || open != k {
		t.Errorf("%q: %q %x %v", text, got, open, no)
	}
}

func refused(t *testing.T, l *frame.Line, e api.Envelope, want api.Errno) {
	t.Helper()
	if text, open, no := l.Unwrap(e); no != want || len(text) != 0 || open != (api.Key{}) {
		t.Errorf("%q %x %v, not %v", text, open, no, want)
	}
}

func data(from, to byte, c api.Key) []byte {
	return octets.Join([]byte{from}, []byte{to}, c[:])
}

// P15.1
func TestNew(t *testing.T) {
	s, _ := sessions(t)
	for _, c := range []struct{ from, to int }{{1, 1}, {0, 0}, {7, 7}, {-1, 0}, {0, -1}, {8, 0}, {0, 8}, {-1, -2}, {256, 1}} {
		if l, e := frame.New(s, c.from, c.to); e != api.ErrArg || l != nil {
			t.Error(c, l, e)
		}
	}
	if l, e := frame.New(nil, 0, 1); e != api.ErrArg || l != nil {
		t.Error(l, e)
	}
	for _, c := range []struct{ from, to int }{{0, 1}, {7, 0}, {0, 7}} {
		if l, e := frame.New(s, c.from, c.to); e != api.OK || l == nil {
			t.Error(c, l, e)
		}
	}
}

// P15.2: the envelope, computed from the layers below.
func TestWrap(t *testing.T) {
	a, _ := lines(t)
	s, _ := sessions(t)
	text := []byte("hello")
	for range 3 {
		c := commit.Make(opening, []byte{2}, []byte{6}, text)
		h, body, _ := s.Send(data(2, 6, c), commit.Pack(opening, text))
		want := api.Envelope{From: 2, To: 6, Commit: c, Head: h, Body: body}
		got, e := a.Wrap(opening, text)
		if e != api.OK || !reflect.DeepEqual(got, want) {
			t.Error(got, e)
		}
	}
	if string(text) != "hello" {
		t.Error("the argument was changed")
	}
}

// P15.2
func TestWrapErrors(t *testing.T) {
	a, b := lines(t)
	for _, l := range []*frame.Line{a, b} {
		if e, no := l.Wrap(opening, make([]byte, 251)); no != api.ErrArg || !reflect.DeepEqual(e, api.Envelope{}) {
			t.Error(e, no)
		}
	}
	if e, no := b.Wrap(opening, nil); no != api.ErrNone || !reflect.DeepEqual(e, api.Envelope{}) {
		t.Error(e, no)
	}
	// What was refused has not used up a number.
	e := wrap(t, a, opening, string(make([]byte, 250)))
	if e.Head.N != 0 {
		t.Error(e.Head)
	}
	unwrap(t, b, e, opening, string(make([]byte, 250)))
}

// P15.3, P15.4
func TestUnwrap(t *testing.T) {
	a, b := lines(t)
	for i, text := range []string{"", "hi", "hi", string(bytes.Repeat([]byte{9}, 250))} {
		k := api.Key{byte(i)}
		e := wrap(t, a, k, text)
		kept := bytes.Clone(e.Body)
		unwrap(t, b, e, k, text)
		if !bytes.Equal(e.Body, kept) {
			t.Error("the argument was changed")
		}
		if commit.Check(e.Commit, k, []byte{2}, []byte{6}, []byte(text)) != api.OK {
			t.Error("the opening does not open the commitment")
		}
		if commit.Check(e.Commit, k, []byte{2}, []byte{6}, []byte(text+"x")) == api.OK {
			t.Error("the opening opens the commitment to another text")
		}
		refused(t, b, e, api.ErrOld)
	}
	e := wrap(t, b, opening, "back")
	if e.From != 6 || e.To != 2 {
		t.Error(e.From, e.To)
	}
	unwrap(t, a, e, opening, "back")
}

// P15.3
func TestUnwrapEnds(t *testing.T) {
	a, b := lines(t)
	good := wrap(t, a, opening, "hi")
	for _, c := range []struct{ from, to int }{{6, 2}, {2, 2}, {6, 6}, {2, 5}, {3, 6}, {-1, 6}, {2, 262}} {
		e := good
		e.From, e.To = c.from, c.to
		refused(t, b, e, api.ErrArg)
	}
	refused(t, a, good, api.ErrArg)
	// The ends come first, whatever else is wrong.
	e := good
	e.From, e.Head.N = 3, -1
	refused(t, b, e, api.ErrArg)
	unwrap(t, b, good, opening, "hi")
}

// P15.3, P15.4
func TestUnwrapChanged(t *testing.T) {
	a, b := lines(t)
	good := wrap(t, a, opening, "hi")
	for bit := range 256 {
		e := good
		e.Commit[bit/8] ^= 1 << (bit % 8)
		refused(t, b, e, api.ErrMac)
	}
	e := good
	e.Commit = commit.Make(opening, []byte{2}, []byte{6}, []byte("ho"))
	refused(t, b, e, api.ErrMac)
	for i := range good.Body {
		e := good
		e.Body = bytes.Clone(good.Body)
		e.Body[i] ^= 4
		refused(t, b, e, api.ErrMac)
	}
	e = good
	e.Body = good.Body[:31]
	refused(t, b, e, api.ErrShort)
	e = good
	e.Head.N = -1
	refused(t, b, e, api.ErrArg)
	e = good
	e.Head.N = 9
	refused(t, b, e, api.ErrSkip)
	e = good
	e.Head.Public = api.Key{}
	refused(t, b, e, api.ErrKey)
	unwrap(t, b, good, opening, "hi")
}

// P15.3: what a sender made who does not keep to Wrap; it counts as received.
func TestUnwrapDishonest(t *testing.T) {
	s, r := sessions(t)
	b, _ := frame.New(r, 6, 2)
	for _, c := range []struct {
		commit api.Key
		packed []byte
		want   api.Errno
	}{
		{api.Key{1}, nil, api.ErrShort},
		{api.Key{1}, make([]byte, 31), api.ErrShort},
		{api.Key{1}, make([]byte, 32), api.ErrMac},
		{commit.Make(opening, []byte{2}, []byte{6}, []byte("ho")), commit.Pack(opening, []byte("hi")), api.ErrMac},
		{commit.Make(api.Key{}, []byte{2}, []byte{6}, []byte("hi")), commit.Pack(opening, []byte("hi")), api.ErrMac},
		{commit.Make(opening, []byte{6}, []byte{2}, []byte("hi")), commit.Pack(opening, []byte("hi")), api.ErrMac},
		{commit.Make(opening, []byte("hi")), commit.Pack(opening, []byte("hi")), api.ErrMac},
		{commit.Make(opening, []byte{2, 6}, []byte("hi")), commit.Pack(opening, []byte("hi")), api.ErrMac},
		{commit.Make(opening, []byte{2}, []byte{6}, []byte("hi")), commit.Pack(opening, []byte("hi")), api.OK},
	} {
		h, body, no := s.Send(data(2, 6, c.commit), c.packed)
		if no != api.OK {
			t.Fatal(no)
		}
		e := api.Envelope{From: 2, To: 6, Commit: c.commit, Head: h, Body: body}
		if c.want != api.OK {
			refused(t, b, e, c.want)
		} else {
			unwrap(t, b, e, opening, "hi")
		}
		refused(t, b, e, api.ErrOld)
	}
	// A text that is longer than Wrap takes is received all the same.
	long := make([]byte, 260)
	c := commit.Make(opening, []byte{2}, []byte{6}, long)
	h, body, _ := s.Send(data(2, 6, c), commit.Pack(opening, long))
	unwrap(t, b, api.Envelope{From: 2, To: 6, Commit: c, Head: h, Body: body}, opening, string(long))
}

// P15.3: an envelope of the same session with other ends cannot be passed off as one of this line.
func TestOtherEnds(t *testing.T) {
	s, r := sessions(t)
	a, _ := frame.New(s, 3, 6)
	b, _ := frame.New(r, 6, 2)
	e := wrap(t, a, opening, "hi")
	refused(t, b, e, api.ErrArg)
	e.From = 2
	refused(t, b, e, api.ErrMac)
}
