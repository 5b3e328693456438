package moder_test

import (
	"bytes"
	"fmt"
	"math"
	"testing"

	"palfrey/api"
	"palfrey/commit"
	"palfrey/disk"
	"palfrey/journal"
	"palfrey/moder"
	"palfrey/report"
	"palfrey/stamp"
	"palfrey/strikes"
)

var opening = api.Key{3, 31: 4}

// place is a moderator, and what it works with.
type place struct {
	d *disk.Disk
	j *journal.Journal
	l *strikes.Ledger
	s *stamp.Relay
	m *moder.Moder
}

func made(t *testing.T, sectors int) *place {
	t.Helper()
	p := &place{}
	var e api.Errno
	if p.d, e = disk.New(sectors); e != api.OK {
		t.Fatal(e)
	}
	if p.s, e = stamp.New(api.Key{1}, 10); e != api.OK {
		t.Fatal(e)
	}
	p.open(t)
	return p
}

func (p *place) open(t *testing.T) {
	t.Helper()
	var e api.Errno
	if p.j, e = journal.Open(p.d); e != api.OK {
		t.Fatal(e)
	}
	if p.l, e = strikes.Open(p.j); e != api.OK {
		t.Fatal(e)
	}
	if p.m, e = moder.New(p.s, p.l); e != api.OK || p.m == nil {
		t.Fatal(e)
	}
}

// report is one by to of a text that from sent.
func (p *place) report(t *testing.T, id, from, to, time int) api.Report {
	t.Helper()
	text := []byte(fmt.Sprint("text ", id))
	c := commit.Make(opening, []byte{byte(from)}, []byte{byte(to)}, text)
	s, e := p.s.Stamp(api.Envelope{From: from, To: to, Commit: c}, time)
	if e != api.OK {
		t.Fatal(e)
	}
	return api.Report{ID: id, By: to, Text: text, Opening: opening, Stamp: s}
}

func packed(t *testing.T, r api.Report) []byte {
	t.Helper()
	b, e := report.Bytes(r)
	if e != api.OK {
		t.Fatal(e)
	}
	return b
}

// intake takes a report of a text in that 2 sent to 6 at the time 0.
func (p *place) intake(t *testing.T, id, now int, want api.Errno) {
	t.Helper()
	p.take(t, packed(t, p.report(t, id, 2, 6, 0)), now, id, want)
}

func (p *place) take(t *testing.T, b []byte, now, id int, want api.Errno) {
	t.Helper()
	got, e := p.m.Intake(b, now)
	if want != api.OK {
		id = 0
	}
	if e != want || got != id {
		t.Errorf("Intake at %d: %d %v, not %d %v", now, got, e, id, want)
	}
}

func (p *place) judge(t *testing.T, id, verdict, now int, want api.Errno) {
	t.Helper()
	if e := p.m.Judge(id, verdict, now); e != want {
		t.Errorf("Judge(%d, %d, %d): %v, not %v", id, verdict, now, e, want)
	}
}

func (p *place) appeal(t *testing.T, account, id, now int, want api.Errno) {
	t.Helper()
	if e := p.m.Appeal(account, id, now); e != want {
		t.Errorf("Appeal(%d, %d, %d): %v, not %v", account, id, now, e, want)
	}
}

func (p *place) queue(t *testing.T, want ...int) {
	t.Helper()
	var got []int
	for _, r := range p.m.Queue() {
		got = append(got, r.ID)
		if string(r.Text) != fmt.Sprint("text ", r.ID) {
			t.Errorf("%q", r.Text)
		}
	}
	if fmt.Sprint(got) != fmt.Sprint(want) {
		t.Error("queue", got, want)
	}
}

func (p *place) count(t *testing.T, account, now, want int) {
	t.Helper()
	if got := p.l.Count(account, now); got != want {
		t.Errorf("Count(%d, %d): %d, not %d", account, now, got, want)
	}
}

// P24.1
func TestNew(t *testing.T) {
	p := made(t, 4)
	if m, e := moder.New(nil, p.l); e != api.ErrArg || m != nil {
		t.Error(m, e)
	}
	if m, e := moder.New(p.s, nil); e != api.ErrArg || m != nil {
		t.Error(m, e)
	}
	if m, e := moder.New(nil, nil); e != api.ErrArg || m != nil {
		t.Error(m, e)
	}
	p.queue(t)
}

// P24.2
func TestIntake(t *testing.T) {
	p := made(t, 8)
	r := p.report(t, 5, 2, 6, 0)
	p.take(t, packed(t, r), 50, 5, api.OK)
	l := p.m.Queue()
	if len(l) != 1 || l[0].ID != 5 || l[0].By != 6 || string(l[0].Text) != "text 5" || l[0].Opening != opening || l[0].Stamp != r.Stamp {
		t.Error(l)
	}
	p.intake(t, 5, 50, api.ErrTwice)
	// Another report with the same number is the same one.
	p.take(t, packed(t, p.report(t, 5, 1, 3, 0)), 0, 5, api.ErrTwice)
	p.intake(t, 0, 0, api.OK)
	p.intake(t, 1000000, 0, api.OK)
	p.queue(t, 5, 0, 1000000)
}

// P24.2
func TestIntakeErrors(t *testing.T) {
	p := made(t, 8)
	good := p.report(t, 5, 2, 6, 0)
	p.take(t, nil, 0, 0, api.ErrForm)
	p.take(t, []byte{1}, 0, 0, api.ErrShort)
	p.take(t, packed(t, good)[:100], 0, 0, api.ErrShort)
	p.take(t, append(packed(t, good), 0, 0, 0, 0), 0, 0, api.ErrForm)
	p.take(t, packed(t, good), -1, 0, api.ErrArg)
	p.take(t, packed(t, good), 1000001, 0, api.ErrArg)
	p.take(t, packed(t, good), 51, 0, api.ErrOld)
	p.take(t, packed(t, p.report(t, 5, 2, 6, 10)), 9, 0, api.ErrOld)
	r := good
	r.By = 2
	p.take(t, packed(t, r), 0, 0, api.ErrArg)
	r = good
	r.Text = []byte("another text")
	p.take(t, packed(t, r), 0, 0, api.ErrMac)
	r = good
	r.Stamp.From = 1
	p.take(t, packed(t, r), 0, 0, api.ErrMac)
	p.queue(t)
	// What is wrong with a report comes ahead of its being there already.
	p.take(t, packed(t, good), 0, 5, api.OK)
	p.take(t, packed(t, good), 51, 0, api.ErrOld)
	r = good
	r.Text = nil
	p.take(t, packed(t, r), 0, 0, api.ErrMac)
	p.queue(t, 5)
}

// P24.2
func TestIntakeFull(t *testing.T) {
	p := made(t, 8)
	for id := range 8 {
		p.intake(t, 10-id, 0, api.OK)
	}
	p.queue(t, 10, 9, 8, 7, 6, 5, 4, 3)
	p.intake(t, 20, 0, api.ErrFull)
	// Twice comes ahead of full.
	p.intake(t, 7, 0, api.ErrTwice)
	p.judge(t, 8, api.Clear, 0, api.OK)
	p.intake(t, 20, 0, api.OK)
	p.queue(t, 10, 9, 7, 6, 5, 4, 3, 20)
	p.intake(t, 21, 0, api.ErrFull)
	p.intake(t, 8, 0, api.ErrTwice)
}

// P24.2
func TestIntakeTwice(t *testing.T) {
	p := made(t, 8)
	p.intake(t, 1, 0, api.OK)
	p.intake(t, 2, 0, api.OK)
	p.intake(t, 1, 0, api.ErrTwice)
	p.judge(t, 1, api.Strike, 0, api.OK)
	p.judge(t, 2, api.Clear, 0, api.OK)
	p.intake(t, 1, 0, api.ErrTwice)
	p.intake(t, 2, 0, api.ErrTwice)
	// A strike of another origin with that number, revoked or not.
	if p.l.Add(4, 3, 0) != api.OK || p.l.Add(4, 4, 0) != api.OK || p.l.Clear(4, 0) != api.OK {
		t.Fatal("no strike")
	}
	p.intake(t, 3, 0, api.ErrTwice)
	p.intake(t, 4, 0, api.ErrTwice)
	p.queue(t)
	// Another moderator of the same ledger knows the strikes, and not what was cleared.
	p.open(t)
	p.intake(t, 1, 0, api.ErrTwice)
	p.intake(t, 3, 0, api.ErrTwice)
	p.intake(t, 4, 0, api.ErrTwice)
	p.intake(t, 2, 0, api.OK)
}

// P24.2: arguments and results are not shared.
func TestNothingShared(t *testing.T) {
	p := made(t, 8)
	b := packed(t, p.report(t, 5, 2, 6, 0))
	kept := bytes.Clone(b)
	p.take(t, b, 0, 5, api.OK)
	if !bytes.Equal(b, kept) {
		t.Error("the argument was changed")
	}
	for i := range b {
		b[i] = 0
	}
	p.queue(t, 5)
	l := p.m.Queue()
	l[0].Text[0], l[0].ID = 'x', 9
	p.queue(t, 5)
	l = p.m.Queue()
	p.judge(t, 5, api.Clear, 0, api.OK)
	if l[0].ID != 5 {
		t.Error(l)
	}
}

// P24.3
func TestJudge(t *testing.T) {
	p := made(t, 8)
	for id := range 4 {
		p.intake(t, id, 0, api.OK)
	}
	for _, verdict := range []int{api.Open, 3, -1, math.MaxInt} {
		p.judge(t, 1, verdict, 7, api.ErrArg)
		p.judge(t, 99, verdict, 7, api.ErrArg)
	}
	for _, id := range []int{99, -1, 4} {
		p.judge(t, id, api.Strike, 7, api.ErrNone)
		p.judge(t, id, api.Clear, 7, api.ErrNone)
	}
	p.queue(t, 0, 1, 2, 3)
	p.judge(t, 1, api.Strike, 7, api.OK)
	p.queue(t, 0, 2, 3)
	if account, cleared, is := p.l.Of(1); account != 2 || cleared || !is {
		t.Error(account, cleared, is)
	}
	// The time of the strike is that of the verdict.
	p.count(t, 2, 6, 0)
	p.count(t, 2, 7, 1)
	p.count(t, 2, 107, 1)
	p.count(t, 2, 108, 0)
	p.count(t, 6, 7, 0)
	p.judge(t, 1, api.Strike, 7, api.ErrNone)
	p.judge(t, 1, api.Clear, 7, api.ErrNone)
	p.judge(t, 2, api.Clear, 7, api.OK)
	p.queue(t, 0, 3)
	if _, _, is := p.l.Of(2); is || p.j.Len() != 1 {
		t.Error("a clear verdict has an effect")
	}
	p.judge(t, 2, api.Strike, 7, api.ErrNone)
	p.judge(t, 3, api.Strike, 8, api.OK)
	p.judge(t, 0, api.Strike, 9, api.OK)
	p.queue(t)
	p.count(t, 2, 10, 3)
}

// P24.3
func TestJudgeErrors(t *testing.T) {
	p := made(t, 2)
	for id := range 4 {
		p.intake(t, id, 0, api.OK)
	}
	for _, now := range []int{-1, 1000001, math.MinInt, math.MaxInt} {
		p.judge(t, 1, api.Strike, now, api.ErrArg)
		p.queue(t, 0, 1, 2, 3)
	}
	// With Clear the time is not looked at.
	p.judge(t, 0, api.Clear, -1, api.OK)
	p.d.Fuse(0)
	p.judge(t, 1, api.Strike, 0, api.ErrDead)
	p.queue(t, 1, 2, 3)
	p.count(t, 2, 0, 0)
	p.d.Crash(0)
	p.judge(t, 1, api.Strike, 0, api.OK)
	// A strike that is there already counts as done.
	if e := p.l.Add(5, 2, 0); e != api.OK {
		t.Fatal(e)
	}
	p.judge(t, 2, api.Strike, 0, api.OK)
	p.queue(t, 3)
	p.count(t, 2, 0, 1)
	p.count(t, 5, 0, 1)
	p.judge(t, 3, api.Strike, 0, api.ErrFull)
	p.queue(t, 3)
	p.intake(t, 3, 0, api.ErrTwice)
	p.judge(t, 3, api.Clear, 0, api.OK)
	p.queue(t)
}

// P24.4
func TestAppeal(t *testing.T) {
	p := made(t, 16)
	for id := range 4 {
		if e := p.l.Add(2, id, 0); e != api.OK {
			t.Fatal(e)
		}
	}
	if e := p.l.Add(3, 9, 0); e != api.OK {
		t.Fatal(e)
	}
	for _, a := range []int{-1, 8, math.MinInt, math.MaxInt} {
		p.appeal(t, a, 1, 0, api.ErrArg)
		p.appeal(t, a, 77, 0, api.ErrArg)
	}
	for _, id := range []int{77, -1, 9, 1000001} {
		p.appeal(t, 2, id, 0, api.ErrNone)
	}
	p.appeal(t, 0, 1, 0, api.ErrNone)
	p.count(t, 2, 0, 4)
	p.appeal(t, 2, 1, 0, api.OK)
	p.count(t, 2, 0, 3)
	// None of these takes a token.
	for range 3 {
		p.appeal(t, 2, 1, 0, api.ErrOld)
		p.appeal(t, 2, 77, 0, api.ErrNone)
		p.appeal(t, 2, 2, -1, api.ErrOld)
		p.appeal(t, 2, 2, 1000001, api.ErrArg)
	}
	p.appeal(t, 2, 2, 10, api.OK)
	p.appeal(t, 2, 3, 20, api.ErrRate)
	// The time of the bucket is that of the last try.
	p.appeal(t, 2, 3, 19, api.ErrOld)
	p.appeal(t, 2, 3, 49, api.ErrRate)
	p.appeal(t, 2, 1, 0, api.ErrOld)
	p.count(t, 2, 49, 2)
	// The bucket of another account is another one.
	p.appeal(t, 3, 9, 0, api.OK)
	p.appeal(t, 2, 3, 50, api.OK)
	p.appeal(t, 2, 0, 99, api.ErrRate)
	p.appeal(t, 2, 0, 100, api.OK)
	p.count(t, 2, 100, 0)
}

// P24.4: each account has a bucket of its own, the first and the last one as well.
func TestAppealOfAll(t *testing.T) {
	p := made(t, 64)
	for account := range 8 {
		for id := range 3 {
			if e := p.l.Add(account, 10*account+id, 0); e != api.OK {
				t.Fatal(e)
			}
		}
		p.appeal(t, account, 10*account, 0, api.OK)
		p.appeal(t, account, 10*account+1, 0, api.OK)
		p.appeal(t, account, 10*account+2, 0, api.ErrRate)
		p.count(t, account, 0, 1)
	}
}

// P24.4: a token that was taken remains taken.
func TestAppealRefused(t *testing.T) {
	p := made(t, 16)
	for id := range 3 {
		if e := p.l.Add(2, id, 0); e != api.OK {
			t.Fatal(e)
		}
	}
	p.d.Fuse(0)
	p.appeal(t, 2, 0, 0, api.ErrDead)
	p.appeal(t, 2, 0, 0, api.ErrDead)
	p.appeal(t, 2, 0, 0, api.ErrRate)
	p.count(t, 2, 0, 3)
	p.d.Crash(0)
	p.appeal(t, 2, 0, 49, api.ErrRate)
	p.appeal(t, 2, 0, 50, api.OK)
	p.count(t, 2, 50, 2)
	full := made(t, 1)
	if e := full.l.Add(2, 0, 0); e != api.OK {
		t.Fatal(e)
	}
	full.appeal(t, 2, 0, 0, api.ErrFull)
	full.count(t, 2, 0, 1)
}

// P24.5: whoever reports, and however often.
func TestOneStrike(t *testing.T) {
	p := made(t, 64)
	for id := range 6 {
		for from := range 8 {
			for to := range 8 {
				if from == to {
					continue
				}
				r := p.report(t, id, from, to, 0)
				for by := range 8 {
					r.By = by
					want := api.ErrArg
					if by == to {
						want = api.ErrTwice
						if from == 0 && to == 1 {
							want = api.OK
						}
					}
					p.take(t, packed(t, r), 0, id, want)
				}
			}
		}
		verdict := api.Strike
		if id%2 == 1 {
			verdict = api.Clear
		}
		p.judge(t, id, verdict, 0, api.OK)
		p.judge(t, id, api.Strike, 0, api.ErrNone)
		p.intake(t, id, 0, api.ErrTwice)
		p.queue(t)
	}
	p.count(t, 0, 0, 3)
	for a := 1; a < 8; a++ {
		p.count(t, a, 0, 0)
	}
	// After a crash the strikes are still there, and cannot be added again.
	p.d.Crash(0)
	p.open(t)
	p.queue(t)
	for id := range 6 {
		want := api.ErrTwice
		if id%2 == 1 {
			want = api.OK
		}
		p.intake(t, id, 0, want)
	}
	p.count(t, 0, 0, 3)
}
