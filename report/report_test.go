package report_test

import (
	"bytes"
	"math"
	"reflect"
	"testing"

	"palfrey/api"
	"palfrey/commit"
	"palfrey/frame"
	"palfrey/keys"
	"palfrey/octets"
	"palfrey/ratchet"
	"palfrey/report"
	"palfrey/stamp"
)

var root, opening = api.Key{1, 2}, api.Key{3, 31: 4}

func relay(t *testing.T) *stamp.Relay {
	t.Helper()
	r, e := stamp.New(root, 10)
	if e != api.OK {
		t.Fatal(e)
	}
	return r
}

// good is a report by 6 of a text that 2 sent at the time 7.
func good(t *testing.T) api.Report {
	t.Helper()
	text := []byte("bad words")
	e := api.Envelope{From: 2, To: 6, Commit: commit.Make(opening, []byte{2}, []byte{6}, text)}
	s, no := relay(t).Stamp(e, 7)
	if no != api.OK {
		t.Fatal(no)
	}
	return api.Report{ID: 5, By: 6, Text: text, Opening: opening, Stamp: s}
}

func changes() map[string]func(*api.Report) {
	return map[string]func(*api.Report){
		"ID -1":         func(r *api.Report) { r.ID = -1 },
		"ID 1000001":    func(r *api.Report) { r.ID = 1000001 },
		"ID 2^32":       func(r *api.Report) { r.ID = 1 << 32 },
		"ID min":        func(r *api.Report) { r.ID = math.MinInt },
		"By -1":         func(r *api.Report) { r.By = -1 },
		"By 8":          func(r *api.Report) { r.By, r.Stamp.To = 8, 8 },
		"By 262":        func(r *api.Report) { r.By = 262 },
		"Text 251":      func(r *api.Report) { r.Text = make([]byte, 251) },
		"Epoch -1":      func(r *api.Report) { r.Stamp.Epoch = -1 },
		"Epoch 1000001": func(r *api.Report) { r.Stamp.Epoch = 1000001 },
		"Time -1":       func(r *api.Report) { r.Stamp.Time = -1 },
		"Time 1000001":  func(r *api.Report) { r.Stamp.Time = 1000001 },
		"From -1":       func(r *api.Report) { r.Stamp.From = -1 },
		"From 8":        func(r *api.Report) { r.Stamp.From = 8 },
		"To 8":          func(r *api.Report) { r.Stamp.To = 8 },
	}
}

// P17.1
func TestBytes(t *testing.T) {
	r := good(t)
	mark, _ := stamp.Bytes(r.Stamp)
	r.ID = 0x010203
	want := octets.Join([]byte{0, 1, 2, 3}, []byte{6}, []byte("bad words"), opening[:], mark)
	got, e := report.Bytes(r)
	if e != api.OK || !bytes.Equal(got, want) {
		t.Error(got, e)
	}
	for i := range got {
		got[i] ^= 1
	}
	if string(r.Text) != "bad words" {
		t.Error("the result shares memory with the argument")
	}
	for what, change := range changes() {
		r := good(t)
		change(&r)
		if b, e := report.Bytes(r); e != api.ErrArg || len(b) != 0 {
			t.Error(what, b, e)
		}
	}
}

// P17.1, P17.3
func TestRead(t *testing.T) {
	edge := good(t)
	edge.ID, edge.By, edge.Text = 1000000, 7, bytes.Repeat([]byte{9}, 250)
	empty := good(t)
	empty.Text = nil
	for _, r := range []api.Report{good(t), edge, empty, {}} {
		b, e := report.Bytes(r)
		if e != api.OK {
			t.Fatal(e)
		}
		kept := bytes.Clone(b)
		got, e := report.Read(b)
		if e != api.OK || got.ID != r.ID || got.By != r.By || !bytes.Equal(got.Text, r.Text) || got.Opening != r.Opening || got.Stamp != r.Stamp {
			t.Error(got, e)
		}
		again, e := report.Bytes(got)
		if e != api.OK || !bytes.Equal(again, b) {
			t.Error("not the same bytes again")
		}
		for i := range got.Text {
			got.Text[i] ^= 1
		}
		if !bytes.Equal(b, kept) {
			t.Error("the result shares memory with the argument")
		}
	}
}

// P17.1
func TestReadShort(t *testing.T) {
	b, _ := report.Bytes(good(t))
	ends := map[int]bool{0: true, 8: true, 13: true, 26: true, 62: true}
	for n := range b {
		want := api.ErrShort
		if ends[n] {
			want = api.ErrForm
		}
		if got, e := report.Read(b[:n]); e != want || !reflect.DeepEqual(got, api.Report{}) {
			t.Error(n, got, e)
		}
	}
	for _, more := range [][]byte{{0}, {0, 0, 0}, {0, 0, 0, 1}} {
		if _, e := report.Read(append(bytes.Clone(b), more...)); e != api.ErrShort {
			t.Error(more, e)
		}
	}
	if _, e := report.Read(append(bytes.Clone(b), 0, 0, 0, 0)); e != api.ErrForm {
		t.Error(e)
	}
}

// P17.1
func TestReadForm(t *testing.T) {
	r := good(t)
	mark, _ := stamp.Bytes(r.Stamp)
	fresh := func() [][]byte {
		return [][]byte{{0, 0, 0, 5}, {6}, []byte("bad words"), bytes.Clone(opening[:]), bytes.Clone(mark)}
	}
	if _, e := report.Read(octets.Join(fresh()...)); e != api.OK {
		t.Fatal(e)
	}
	fails := func(what string, l ...[]byte) {
		t.Helper()
		if got, e := report.Read(octets.Join(l...)); e != api.ErrForm || !reflect.DeepEqual(got, api.Report{}) {
			t.Error(what, got, e)
		}
	}
	fails("none")
	fails("four", fresh()[:4]...)
	fails("six", append(fresh(), nil)...)
	for i, l := range map[int][][]byte{
		0: {nil, {5}, {0, 0, 5}, {0, 0, 0, 0, 5}, {0, 0x0f, 0x42, 0x41}, {255, 255, 255, 255}, {0x80, 0, 0, 0}},
		1: {nil, {0, 6}, {6, 0}, {8}, {255}},
		2: {make([]byte, 251), make([]byte, 1000)},
		3: {nil, make([]byte, 31), make([]byte, 33)},
		4: {nil, make([]byte, 73), make([]byte, 75), append([]byte{0, 0, 0, 0, 8}, make([]byte, 69)...), append([]byte{255}, make([]byte, 73)...)},
	} {
		for _, b := range l {
			all := fresh()
			all[i] = b
			fails("part", all...)
		}
	}
}

// P17.2
func TestCheck(t *testing.T) {
	by := relay(t)
	for now, want := range map[int]api.Errno{6: api.ErrOld, 7: api.OK, 30: api.OK, 57: api.OK, 58: api.ErrOld, 1000000: api.ErrOld, -1: api.ErrArg, 1000001: api.ErrArg} {
		if e := report.Check(by, good(t), now); e != want {
			t.Error(now, e)
		}
	}
	for what, change := range changes() {
		r := good(t)
		change(&r)
		if e := report.Check(by, r, 7); e != api.ErrArg {
			t.Error(what, e)
		}
	}
}

// P17.2, P17.3
func TestCheckBy(t *testing.T) {
	for by := range 8 {
		r := good(t)
		r.By = by
		want := api.ErrArg
		if by == 6 {
			want = api.OK
		}
		if e := report.Check(relay(t), r, 7); e != want {
			t.Error(by, e)
		}
		// Not the recipient comes first, whatever else is wrong.
		if by != 6 {
			r.Text, r.Stamp.Tag = nil, api.Key{}
			if e := report.Check(relay(t), r, 1000); e != api.ErrArg {
				t.Error(by, e)
			}
		}
	}
	// Who is not the recipient cannot say that the stamp was for it.
	r := good(t)
	r.By, r.Stamp.To = 5, 5
	if e := report.Check(relay(t), r, 7); e != api.ErrMac {
		t.Error(e)
	}
}

// P17.2, P17.3
func TestCheckMac(t *testing.T) {
	by := relay(t)
	for what, change := range map[string]func(*api.Report){
		"text":       func(r *api.Report) { r.Text = []byte("bad word") },
		"other text": func(r *api.Report) { r.Text = []byte("bad wordz") },
		"no text":    func(r *api.Report) { r.Text = nil },
		"opening":    func(r *api.Report) { r.Opening[5] ^= 1 },
	} {
		r := good(t)
		change(&r)
		if e := report.Check(by, r, 7); e != api.ErrMac {
			t.Error(what, e)
		}
		// What is past comes ahead of the text.
		if e := report.Check(by, r, 58); e != api.ErrOld {
			t.Error(what, e)
		}
	}
	for what, change := range map[string]func(*api.Report){
		"from":   func(r *api.Report) { r.Stamp.From = 3 },
		"time":   func(r *api.Report) { r.Stamp.Time = 8 },
		"commit": func(r *api.Report) { r.Stamp.Commit[0] ^= 1 },
		"tag":    func(r *api.Report) { r.Stamp.Tag[0] ^= 1 },
		"epoch":  func(r *api.Report) { r.Stamp.Epoch = 1 },
	} {
		r := good(t)
		change(&r)
		for _, now := range []int{7, 58} {
			if e := report.Check(by, r, now); e != api.ErrMac {
				t.Error(what, now, e)
			}
		}
	}
	// A stamp of a commitment that was made for other ends.
	text := []byte("bad words")
	for _, c := range []api.Key{
		commit.Make(opening, []byte{6}, []byte{2}, text),
		commit.Make(opening, []byte{3}, []byte{6}, text),
		commit.Make(opening, []byte{2}, []byte{5}, text),
		commit.Make(opening, []byte{2, 6}, text),
		commit.Make(opening, text),
	} {
		s, _ := by.Stamp(api.Envelope{From: 2, To: 6, Commit: c}, 7)
		if e := report.Check(by, api.Report{By: 6, Text: text, Opening: opening, Stamp: s}, 7); e != api.ErrMac {
			t.Error(c, e)
		}
	}
}

// P17.3: from a text to the report of it.
func TestWhole(t *testing.T) {
	signed := keys.Pair([]byte("signed"))
	s, _ := ratchet.Begin(api.Key{5}, signed.Public, keys.New([]byte("a")))
	a, _ := frame.New(s, 1, 4)
	b, _ := frame.New(ratchet.Answer(api.Key{5}, signed, keys.New([]byte("b"))), 4, 1)
	by := relay(t)
	for now := range 60 {
		e, no := a.Wrap(api.Key{byte(now)}, bytes.Repeat([]byte{byte(now)}, 4*now))
		if no != api.OK {
			t.Fatal(no)
		}
		mark, no := by.Stamp(e, now)
		if no != api.OK {
			t.Fatal(no)
		}
		text, open, no := b.Unwrap(e)
		if no != api.OK {
			t.Fatal(no)
		}
		packed, no := report.Bytes(api.Report{ID: now, By: 4, Text: text, Opening: open, Stamp: mark})
		if no != api.OK {
			t.Fatal(no)
		}
		r, no := report.Read(packed)
		if no != api.OK {
			t.Fatal(no)
		}
		for _, late := range []int{0, 50} {
			if no := report.Check(by, r, now+late); no != api.OK {
				t.Error(now, late, no)
			}
		}
		if no := report.Check(by, r, now+51); no != api.ErrOld {
			t.Error(now, no)
		}
		r.By = 1
		if no := report.Check(by, r, now); no != api.ErrArg {
			t.Error(now, no)
		}
	}
}
