package strikes_test

import (
	"bytes"
	"math"
	"testing"

	"palfrey/api"
	"palfrey/disk"
	"palfrey/journal"
	"palfrey/strikes"
)

// made are a disk, its journal, and the ledger.
func made(t *testing.T, sectors int) (*disk.Disk, *journal.Journal, *strikes.Ledger) {
	t.Helper()
	d, e := disk.New(sectors)
	if e != api.OK {
		t.Fatal(e)
	}
	j, l := opened(t, d)
	return d, j, l
}

func opened(t *testing.T, d *disk.Disk) (*journal.Journal, *strikes.Ledger) {
	t.Helper()
	j, e := journal.Open(d)
	if e != api.OK {
		t.Fatal(e)
	}
	l, e := strikes.Open(j)
	if e != api.OK || l == nil {
		t.Fatal(e)
	}
	return j, l
}

func add(t *testing.T, l *strikes.Ledger, account, id, now int, want api.Errno) {
	t.Helper()
	if e := l.Add(account, id, now); e != want {
		t.Errorf("Add(%d, %d, %d): %v, not %v", account, id, now, e, want)
	}
}

func clearIt(t *testing.T, l *strikes.Ledger, id, now int, want api.Errno) {
	t.Helper()
	if e := l.Clear(id, now); e != want {
		t.Errorf("Clear(%d, %d): %v, not %v", id, now, e, want)
	}
}

func count(t *testing.T, l *strikes.Ledger, account, now, want int) {
	t.Helper()
	if got := l.Count(account, now); got != want {
		t.Errorf("Count(%d, %d): %d, not %d", account, now, got, want)
	}
	if got := l.Suspended(account, now); got != (want >= 3) {
		t.Errorf("Suspended(%d, %d): %v", account, now, got)
	}
}

func of(t *testing.T, l *strikes.Ledger, id, account int, cleared, is bool) {
	t.Helper()
	a, c, i := l.Of(id)
	if a != account || c != cleared || i != is {
		t.Errorf("Of(%d): %d %v %v", id, a, c, i)
	}
}

func last(j *journal.Journal) []byte {
	var out []byte
	for _, b := range j.All() {
		out = b
	}
	return out
}

// P23.1
func TestOpen(t *testing.T) {
	if l, e := strikes.Open(nil); e != api.ErrArg || l != nil {
		t.Error(l, e)
	}
	d, j, _ := made(t, 64)
	for _, b := range [][]byte{
		{1, 2, 0, 0, 0, 7, 0, 0, 0, 9},               // strike 7 of 2
		{1, 3, 0, 0, 0, 7, 0, 0, 0, 8},               // again: not counted
		{2, 2, 0, 0, 0, 5, 0, 0, 0, 9},               // revokes nothing
		{1, 4, 0, 0, 0, 5, 0, 0, 0, 9},               // strike 5 of 4, which that does not concern
		{1, 7, 0, 0x0f, 0x42, 0x40, 0, 0, 0, 0},      // the highest number
		{1, 0, 0, 0, 0, 0, 0, 0x0f, 0x42, 0x40},      // the highest time
		{2, 0, 0, 0x0f, 0x42, 0x40, 0, 0, 0, 0},      // revoked, whatever account the record names
		{1, 6, 0, 0, 0, 8, 0, 0, 0, 9},               // strike 8 of 6
		{2, 6, 0, 0, 0, 8, 0, 0x0f, 0x42, 0x40},      // revoked
		{2, 6, 0, 0, 0, 8, 0, 0, 0, 1},               // revoked again
		{1, 6, 0, 0, 0, 8, 0, 0, 0, 9},               // a strike that was revoked is not added again
		{1, 1, 1, 2, 3},                              // too short
		{1, 1, 0, 0, 0, 20, 0, 0, 0, 9, 0},           // too long
		{},                                           // none
		{0, 1, 0, 0, 0, 21, 0, 0, 0, 9},              // another kind
		{3, 1, 0, 0, 0, 22, 0, 0, 0, 9},              // another kind
		{1, 8, 0, 0, 0, 23, 0, 0, 0, 9},              // no account
		{1, 255, 0, 0, 0, 24, 0, 0, 0, 9},            // no account
		{1, 1, 0, 0x0f, 0x42, 0x41, 0, 0, 0, 9},      // no number
		{1, 1, 255, 255, 255, 255, 0, 0, 0, 9},       // no number
		{1, 1, 0, 0, 0, 25, 0, 0x0f, 0x42, 0x41},     // no time
		{1, 1, 0, 0, 0, 26, 255, 255, 255, 255},      // no time
		{2, 8, 0, 0, 0, 7, 0, 0, 0, 9},               // no account: not revoked
		{2, 2, 0, 0, 0, 7, 0, 0x0f, 0x42, 0x41},      // no time: not revoked
		{2, 2, 0, 0, 0, 7, 0, 0, 0},                  // too short: not revoked
		{1, 2, 0, 0, 1, 0, 0, 0, 1, 0},               // strike 256 of 2 at 256
		bytes.Repeat([]byte{1}, 59),                  // too long
		bytes.Repeat([]byte{1}, 9),                   // too short
		{1, 2, 0, 1, 0, 0, 0, 1, 0, 0},               // strike 65536 of 2 at 65536
		append([]byte{1, 5}, make([]byte, 8)...),     // strike 0 is there already
		append([]byte{1, 5, 0, 0, 0, 2}, 0, 0, 0, 0), // strike 2 of 5 at 0
		{1, 1, 1, 0, 0, 30, 0, 0, 0, 9},              // no number, by its first byte alone
		{1, 1, 0, 0, 0, 31, 1, 0, 0, 9},              // no time, by its first byte alone
	} {
		if e := j.Append(b); e != api.OK {
			t.Fatal(e)
		}
	}
	before := j.Len()
	_, l := opened(t, d)
	of(t, l, 7, 2, false, true)
	of(t, l, 5, 4, false, true)
	of(t, l, 1000000, 7, true, true)
	of(t, l, 0, 0, false, true)
	of(t, l, 8, 6, true, true)
	of(t, l, 256, 2, false, true)
	of(t, l, 65536, 2, false, true)
	of(t, l, 2, 5, false, true)
	for _, id := range []int{1, 3, 20, 21, 22, 23, 24, 25, 26, 30, 31, 1000001, 1<<32 - 1, 0x01010101} {
		of(t, l, id, 0, false, false)
	}
	count(t, l, 2, 9, 1)
	count(t, l, 2, 109, 1)
	count(t, l, 2, 256, 1)
	count(t, l, 2, 65536, 1)
	count(t, l, 3, 9, 0)
	count(t, l, 4, 9, 1)
	count(t, l, 6, 9, 0)
	count(t, l, 7, 9, 0)
	count(t, l, 1, 9, 0)
	count(t, l, 0, 1000000, 1)
	if j.Len() != before {
		t.Error("Open has written")
	}
}

// P23.1: what others append counts only in a ledger that is opened after it.
func TestOpenReadsOnce(t *testing.T) {
	_, j, l := made(t, 8)
	if e := j.Append([]byte{1, 2, 0, 0, 0, 7, 0, 0, 0, 0}); e != api.OK {
		t.Fatal(e)
	}
	of(t, l, 7, 0, false, false)
	count(t, l, 2, 0, 0)
	add(t, l, 3, 7, 0, api.OK)
	of(t, l, 7, 3, false, true)
	later, e := strikes.Open(j)
	if e != api.OK {
		t.Fatal(e)
	}
	of(t, later, 7, 2, false, true)
}

// P23.2
func TestAdd(t *testing.T) {
	_, j, l := made(t, 8)
	for _, n := range []int{-1, 8, 256, math.MinInt, math.MaxInt} {
		add(t, l, n, 1, 1, api.ErrArg)
	}
	for _, n := range []int{-1, 1000001, 1 << 32, math.MinInt, math.MaxInt} {
		add(t, l, 1, n, 1, api.ErrArg)
		add(t, l, 1, 1, n, api.ErrArg)
	}
	if j.Len() != 0 {
		t.Error(j.Len())
	}
	add(t, l, 2, 0x010203, 0x040506, api.OK)
	if got := last(j); !bytes.Equal(got, []byte{1, 2, 0, 1, 2, 3, 0, 4, 5, 6}) {
		t.Error(got)
	}
	add(t, l, 2, 0x010203, 0x040506, api.ErrTwice)
	add(t, l, 3, 0x010203, 9, api.ErrTwice)
	add(t, l, 8, 0x010203, 9, api.ErrArg)
	if j.Len() != 1 {
		t.Error(j.Len())
	}
	of(t, l, 0x010203, 2, false, true)
	add(t, l, 0, 0, 0, api.OK)
	add(t, l, 7, 1000000, 1000000, api.OK)
	if j.Len() != 3 {
		t.Error(j.Len())
	}
	// Revoked or not.
	clearIt(t, l, 0, 1, api.OK)
	add(t, l, 0, 0, 0, api.ErrTwice)
}

// P23.2
func TestClear(t *testing.T) {
	_, j, l := made(t, 8)
	for _, n := range []int{-1, 1000001, 1 << 32, math.MinInt, math.MaxInt} {
		clearIt(t, l, n, 1, api.ErrArg)
		clearIt(t, l, 1, n, api.ErrArg)
	}
	clearIt(t, l, 1, 1, api.ErrNone)
	add(t, l, 5, 0x010203, 9, api.OK)
	clearIt(t, l, 0x010204, 1, api.ErrNone)
	clearIt(t, l, 0x010203, -1, api.ErrArg)
	of(t, l, 0x010203, 5, false, true)
	clearIt(t, l, 0x010203, 0x040506, api.OK)
	if got := last(j); !bytes.Equal(got, []byte{2, 5, 0, 1, 2, 3, 0, 4, 5, 6}) {
		t.Error(got)
	}
	of(t, l, 0x010203, 5, true, true)
	clearIt(t, l, 0x010203, 1, api.ErrOld)
	clearIt(t, l, 0x010203, 1000001, api.ErrArg)
	if j.Len() != 2 {
		t.Error(j.Len())
	}
}

// P23.2: what the journal refuses has not happened.
func TestRefused(t *testing.T) {
	d, _, l := made(t, 2)
	d.Fuse(0)
	add(t, l, 1, 1, 0, api.ErrDead)
	of(t, l, 1, 0, false, false)
	count(t, l, 1, 0, 0)
	d.Crash(0)
	add(t, l, 1, 1, 0, api.OK)
	d.Fuse(1)
	clearIt(t, l, 1, 0, api.ErrDead)
	of(t, l, 1, 1, false, true)
	count(t, l, 1, 0, 1)
	// What is told of the ledger comes ahead of the disk.
	add(t, l, 1, 1, 0, api.ErrTwice)
	clearIt(t, l, 2, 0, api.ErrNone)
	d.Crash(0)
	add(t, l, 1, 2, 0, api.OK)
	add(t, l, 1, 3, 0, api.ErrFull)
	of(t, l, 3, 0, false, false)
	clearIt(t, l, 1, 0, api.ErrFull)
	of(t, l, 1, 1, false, true)
	count(t, l, 1, 0, 2)
}

// P23.3
func TestCount(t *testing.T) {
	_, _, l := made(t, 16)
	add(t, l, 2, 7, 0, api.OK)
	count(t, l, 2, 100, 1)
	count(t, l, 2, 101, 0)
	count(t, l, 2, -1, 0)
	add(t, l, 2, 8, 50, api.OK)
	add(t, l, 2, 9, 100, api.OK)
	add(t, l, 3, 10, 100, api.OK)
	for now, want := range map[int]int{0: 1, 49: 1, 50: 2, 99: 2, 100: 3, 101: 2, 150: 2, 151: 1, 200: 1, 201: 0, 1000000: 0, math.MinInt: 0, math.MaxInt: 0, math.MinInt + 99: 0, -100: 0} {
		count(t, l, 2, now, want)
	}
	count(t, l, 3, 100, 1)
	for _, a := range []int{-1, 0, 8, math.MaxInt} {
		count(t, l, a, 100, 0)
	}
	add(t, l, 2, 11, 100, api.OK)
	count(t, l, 2, 100, 4)
	clearIt(t, l, 8, 100, api.OK)
	count(t, l, 2, 100, 3)
	clearIt(t, l, 9, 100, api.OK)
	count(t, l, 2, 100, 2)
	// Of one that has been revoked, no time counts.
	count(t, l, 2, 99, 1)
}

// P23.3
func TestOf(t *testing.T) {
	_, _, l := made(t, 4)
	for _, id := range []int{0, 1, -1, 1000001, math.MinInt, math.MaxInt} {
		of(t, l, id, 0, false, false)
	}
	add(t, l, 6, 0, 3, api.OK)
	of(t, l, 0, 6, false, true)
	clearIt(t, l, 0, 3, api.OK)
	of(t, l, 0, 6, true, true)
}

// P23.4: the power goes at every point.
func TestCrashes(t *testing.T) {
	for fuse := range 20 {
		for kept := range uint64(2) {
			d, _, l := made(t, 64)
			d.Fuse(fuse)
			sure, tried := 0, 0
			for id := range 8 {
				tried++
				if l.Add(id%2, id, 10) != api.OK {
					break
				}
				sure++
			}
			d.Crash(kept)
			_, again := opened(t, d)
			total := again.Count(0, 10) + again.Count(1, 10)
			if total < sure || total > tried {
				t.Error(fuse, kept, total, sure, tried)
			}
			for id := range 8 {
				account, cleared, is := again.Of(id)
				if cleared || id < sure && !is || is && account != id%2 || is && id >= tried {
					t.Error(fuse, kept, id, account, cleared, is)
				}
				if is {
					add(t, again, id%2, id, 10, api.ErrTwice)
				}
			}
			if again.Count(0, 10)+again.Count(1, 10) != total {
				t.Error("a strike counts twice")
			}
		}
	}
}

// P23.4: a revocation survives as well.
func TestRevocationSurvives(t *testing.T) {
	d, _, l := made(t, 64)
	for id := range 4 {
		add(t, l, 1, id, 10, api.OK)
	}
	clearIt(t, l, 2, 11, api.OK)
	d.Crash(0)
	_, again := opened(t, d)
	count(t, again, 1, 10, 3)
	of(t, again, 2, 1, true, true)
	clearIt(t, again, 2, 11, api.ErrOld)
	add(t, again, 1, 2, 11, api.ErrTwice)
}
