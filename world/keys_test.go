package world

import (
	"bytes"
	"reflect"
	"testing"

	"palfrey/agree"
	"palfrey/api"
	"palfrey/frame"
	"palfrey/keys"
	"palfrey/ratchet"
	"palfrey/stamp"
)

// P25.1, P25.2: which key is taken for what, computed from the layers below. Nothing that a step tells shows it.
func TestOrderOfKeys(t *testing.T) {
	w, e := New([]byte("order"))
	if e != api.OK {
		t.Fatal(e)
	}
	src := keys.New([]byte("order"))
	root := src.Key()
	var own [3]agree.Own
	for i := range own {
		own[i] = agree.Own{Identity: src.Pair(), Signed: src.Pair(), Once: src.Pair()}
		link := src.Key()
		if w.members[i].own != own[i] || w.members[i].link != link {
			t.Error("keys of account", i)
		}
	}
	if w.source.Many() != src.Many() {
		t.Error(w.source.Many(), src.Many())
	}
	// A time whose epoch tells how many ticks one has.
	now := 100
	w.Do(Op{Do: Tick, N: now})
	own[1].HasOnce = true
	near, far := mirror(t, src, 0, own[0], own[1])
	own[1].HasOnce = false
	stamps, _ := stamp.New(root, 10)
	for i, c := range []struct {
		from, to int
		line     *frame.Line
		other    *frame.Line
		text     string
	}{{0, 1, near, far, "first"}, {0, 1, near, far, "second"}, {1, 0, far, near, "back"}, {0, 1, near, far, "again"}} {
		if out := w.Do(Op{Do: Send, A: c.from, B: c.to, Text: []byte(c.text)}); out.E != api.OK || out.Time != now {
			t.Fatal(i, out)
		}
		opening := src.Key()
		envelope, _ := c.line.Wrap(opening, []byte(c.text))
		mark, _ := stamps.Stamp(envelope, now)
		l, _ := w.relay.Mails(c.to)
		if len(l) != 1 || !reflect.DeepEqual(l[0].E, envelope) || l[0].S != mark {
			t.Fatal(i, l)
		}
		if out := w.Do(Op{Do: Deliver, A: c.to}); out.E != api.OK || string(out.Text) != c.text {
			t.Fatal(i, out)
		}
		c.other.Unwrap(envelope)
		m := w.members[c.to].received
		last := m[len(m)-1]
		if !bytes.Equal(last.text, []byte(c.text)) || last.opening != opening || last.stamp != mark {
			t.Error(i, last)
		}
		if w.source.Many() != src.Many() {
			t.Error(i, w.source.Many(), src.Many())
		}
	}
	// The one-time key of 1 is used up; the line from 2 does without.
	near, _ = mirror(t, src, 2, own[2], own[1])
	w.Do(Op{Do: Send, A: 2, B: 1, Text: []byte("from 2")})
	envelope, _ := near.Wrap(src.Key(), []byte("from 2"))
	if l, _ := w.relay.Mails(1); len(l) != 1 || !reflect.DeepEqual(l[0].E, envelope) {
		t.Error(l)
	}
}

// mirror are both sides of a line from an account, whose keys are a, to 1, whose keys are b.
func mirror(t *testing.T, src *keys.Source, from int, a, b agree.Own) (near, far *frame.Line) {
	t.Helper()
	fresh := src.Pair()
	shared, e := agree.Begin(a.Identity, fresh, agree.Bundle(b))
	if e != api.OK {
		t.Fatal(e)
	}
	s, e := ratchet.Begin(shared, b.Signed.Public, src)
	if e != api.OK {
		t.Fatal(e)
	}
	near, _ = frame.New(s, from, 1)
	far, _ = frame.New(ratchet.Answer(shared, b.Signed, src), 1, from)
	return near, far
}

// P25.2: a step that is refused early takes no key, and one that is refused late does not give back what it took.
func TestKeysOfRefusedSteps(t *testing.T) {
	w, _ := New(nil)
	start := w.source.Many()
	for _, o := range []Op{{Do: Send, A: 1, B: 1}, {Do: Send, A: 3, B: 1}, {Do: Send, A: 1, B: -1}, {Do: Deliver}, {Do: Judge}, {Do: 99}} {
		w.Do(o)
		if w.source.Many() != start {
			t.Error(o, w.source.Many())
		}
	}
	// A fresh pair, the session's pair, and the opening.
	if out := w.Do(Op{Do: Send, A: 0, B: 1, Text: make([]byte, 251)}); out.E != api.ErrArg || w.source.Many() != start+3 {
		t.Error(out, w.source.Many()-start)
	}
	if out := w.Do(Op{Do: Send, A: 1, B: 0}); out.E != api.ErrNone || w.source.Many() != start+4 {
		t.Error(out, w.source.Many()-start)
	}
	for range 5 {
		w.Do(Op{Do: Send, A: 0, B: 1})
	}
	if out := w.Do(Op{Do: Send, A: 0, B: 1}); out.E != api.ErrRate || w.source.Many() != start+10 {
		t.Error(out, w.source.Many()-start)
	}
}
