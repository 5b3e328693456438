package world_test

import (
	"bytes"
	"fmt"
	"math"
	"math/rand"
	"reflect"
	"testing"

	"palfrey/api"
	"palfrey/world"
)

func made(t *testing.T, seed string) *world.World {
	t.Helper()
	w, e := world.New([]byte(seed))
	if e != api.OK || w == nil {
		t.Fatal(e)
	}
	return w
}

// step does a step, and wants just that to come of it.
func step(t *testing.T, w *world.World, o world.Op, want world.Out) {
	t.Helper()
	got := w.Do(o)
	if got.E != want.E || !bytes.Equal(got.Text, want.Text) || got.From != want.From || got.Time != want.Time || got.N != want.N {
		t.Errorf("%v: %v, not %v", o, got, want)
	}
}

func fails(t *testing.T, w *world.World, o world.Op, want api.Errno) {
	t.Helper()
	step(t, w, o, world.Out{E: want})
}

func send(t *testing.T, w *world.World, a, b, time int, text string) {
	t.Helper()
	step(t, w, world.Op{Do: world.Send, A: a, B: b, Text: []byte(text)}, world.Out{Time: time})
}

func noSend(t *testing.T, w *world.World, a, b int, text string, want api.Errno) {
	t.Helper()
	fails(t, w, world.Op{Do: world.Send, A: a, B: b, Text: []byte(text)}, want)
}

func deliver(t *testing.T, w *world.World, a int, text string, from, time, n int) {
	t.Helper()
	step(t, w, world.Op{Do: world.Deliver, A: a}, world.Out{Text: []byte(text), From: from, Time: time, N: n})
}

func report(t *testing.T, w *world.World, a, n, id int, want api.Errno) {
	t.Helper()
	out := world.Out{E: want}
	if want == api.OK {
		out.N = id
	}
	step(t, w, world.Op{Do: world.Report, A: a, N: n, B: id}, out)
}

func judge(t *testing.T, w *world.World, id, verdict int, want api.Errno) {
	t.Helper()
	fails(t, w, world.Op{Do: world.Judge, N: id, B: verdict}, want)
}

func tick(t *testing.T, w *world.World, n int) {
	t.Helper()
	fails(t, w, world.Op{Do: world.Tick, N: n}, api.OK)
}

func crash(t *testing.T, w *world.World, kept int) {
	t.Helper()
	fails(t, w, world.Op{Do: world.Crash, N: kept}, api.OK)
}

func appeal(t *testing.T, w *world.World, a, id int, want api.Errno) {
	t.Helper()
	fails(t, w, world.Op{Do: world.Appeal, A: a, N: id}, want)
}

func fuse(t *testing.T, w *world.World, n int) {
	t.Helper()
	fails(t, w, world.Op{Do: world.Fuse, N: n}, api.OK)
}

func counts(t *testing.T, w *world.World, account, want int) {
	t.Helper()
	if got := w.Strikes(account); got != want {
		t.Errorf("Strikes(%d): %d, not %d", account, got, want)
	}
}

// struck lets 0 send to 1, and be struck for it, by the numbers from id on; the mailbox of 1 is empty then.
func struck(t *testing.T, w *world.World, id, many, received int) {
	t.Helper()
	for i := range many {
		if out := w.Do(world.Op{Do: world.Send, A: 0, B: 1, Text: []byte("bad")}); out.E != api.OK {
			t.Fatal(out)
		}
		if out := w.Do(world.Op{Do: world.Deliver, A: 1}); out.E != api.OK || out.N != received+i {
			t.Fatal(out)
		}
		report(t, w, 1, received+i, id+i, api.OK)
		judge(t, w, id+i, api.Strike, api.OK)
	}
}

// P25.1, P25.2: the example.
func TestExample(t *testing.T) {
	for _, seed := range []string{"", "seed", string(make([]byte, 500))} {
		w := made(t, seed)
		for a := range 3 {
			counts(t, w, a, 0)
			fails(t, w, world.Op{Do: world.Deliver, A: a}, api.ErrNone)
		}
		send(t, w, 0, 1, 0, "hi")
		deliver(t, w, 1, "hi", 0, 0, 0)
		report(t, w, 1, 0, 5, api.OK)
		judge(t, w, 5, api.Strike, api.OK)
		counts(t, w, 0, 1)
		counts(t, w, 1, 0)
		counts(t, w, 2, 0)
	}
	if w, e := world.New(nil); e != api.OK || w == nil {
		t.Error(w, e)
	}
}

// P25.1: the one-time key of an account serves the first line only, and all lines work.
func TestAllLines(t *testing.T) {
	for a := range 3 {
		w := made(t, "lines")
		for b := range 3 {
			for c := range 3 {
				// The order of the pairs is another one for each a.
				from, to := (b+a)%3, (c+2*a)%3
				if from == to {
					continue
				}
				out := w.Do(world.Op{Do: world.Send, A: from, B: to, Text: []byte("x")})
				if out.E != api.OK {
					t.Fatal(from, to, out)
				}
				out = w.Do(world.Op{Do: world.Deliver, A: to})
				if out.E != api.OK || out.From != from || string(out.Text) != "x" {
					t.Fatal(from, to, out)
				}
			}
		}
	}
}

// P25.2
func TestSendErrors(t *testing.T) {
	w := made(t, "s")
	for _, c := range [][2]int{{0, 0}, {2, 2}, {3, 0}, {0, 3}, {-1, 0}, {0, -1}, {3, 3}, {7, 1}, {math.MaxInt, math.MinInt}} {
		noSend(t, w, c[0], c[1], "x", api.ErrArg)
	}
	// The text is looked at when the line is there already: 1 then is the one that answers.
	noSend(t, w, 0, 1, string(make([]byte, 251)), api.ErrArg)
	noSend(t, w, 1, 0, "x", api.ErrNone)
	noSend(t, w, 1, 0, string(make([]byte, 251)), api.ErrArg)
	long := string(bytes.Repeat([]byte{7}, 250))
	send(t, w, 0, 1, 0, long)
	noSend(t, w, 1, 0, "x", api.ErrNone)
	deliver(t, w, 1, long, 0, 0, 0)
	send(t, w, 1, 0, 0, "")
	deliver(t, w, 0, "", 1, 0, 0)
}

// P25.2: whoever sends first begins the line.
func TestWhoBegins(t *testing.T) {
	w := made(t, "b")
	send(t, w, 2, 0, 0, "first")
	noSend(t, w, 0, 2, "x", api.ErrNone)
	// A line to another account is another one.
	send(t, w, 0, 1, 0, "y")
	deliver(t, w, 0, "first", 2, 0, 0)
	send(t, w, 0, 2, 0, "second")
	deliver(t, w, 2, "second", 0, 0, 0)
	deliver(t, w, 1, "y", 0, 0, 0)
}

// P25.2
func TestSendRateAndFull(t *testing.T) {
	w := made(t, "r")
	for i := range 5 {
		send(t, w, 0, 1, 0, fmt.Sprint(i))
	}
	for range 3 {
		noSend(t, w, 0, 1, "lost", api.ErrRate)
	}
	for i := range 3 {
		send(t, w, 2, 1, 0, fmt.Sprint("2:", i))
	}
	noSend(t, w, 2, 1, "lost", api.ErrFull)
	tick(t, w, 10)
	noSend(t, w, 0, 1, "lost", api.ErrFull)
	for i := range 5 {
		deliver(t, w, 1, fmt.Sprint(i), 0, 0, i)
	}
	// Four envelopes of 0 were lost; what comes after them is received all the same.
	send(t, w, 0, 1, 10, "after")
	for i := range 3 {
		deliver(t, w, 1, fmt.Sprint("2:", i), 2, 0, 5+i)
	}
	deliver(t, w, 1, "after", 0, 10, 8)
	fails(t, w, world.Op{Do: world.Deliver, A: 1}, api.ErrNone)
}

// P25.2: what was lost counts as sent; after more than 8 of them nothing can be followed.
func TestLost(t *testing.T) {
	w := made(t, "l")
	for i := range 5 {
		send(t, w, 0, 1, 0, "x")
		deliver(t, w, 1, "x", 0, 0, i)
	}
	for range 8 {
		noSend(t, w, 0, 1, "lost", api.ErrRate)
	}
	tick(t, w, 10)
	send(t, w, 0, 1, 10, "y")
	deliver(t, w, 1, "y", 0, 10, 5)
	for range 9 {
		noSend(t, w, 0, 1, "lost", api.ErrRate)
	}
	tick(t, w, 10)
	send(t, w, 0, 1, 20, "z")
	fails(t, w, world.Op{Do: world.Deliver, A: 1}, api.ErrSkip)
	// It was removed, and does not count as received.
	fails(t, w, world.Op{Do: world.Deliver, A: 1}, api.ErrNone)
	report(t, w, 1, 6, 1, api.ErrNone)
	report(t, w, 1, 5, 1, api.OK)
}

// P25.2
func TestDeliver(t *testing.T) {
	w := made(t, "d")
	for _, a := range []int{-1, 3, 8, math.MaxInt} {
		fails(t, w, world.Op{Do: world.Deliver, A: a}, api.ErrArg)
	}
	send(t, w, 0, 2, 0, "a")
	tick(t, w, 7)
	send(t, w, 1, 2, 7, "b")
	tick(t, w, 3)
	send(t, w, 0, 2, 10, "c")
	fails(t, w, world.Op{Do: world.Deliver, A: 0}, api.ErrNone)
	deliver(t, w, 2, "a", 0, 0, 0)
	deliver(t, w, 2, "b", 1, 7, 1)
	send(t, w, 2, 1, 10, "d")
	deliver(t, w, 2, "c", 0, 10, 2)
	deliver(t, w, 1, "d", 2, 10, 0)
	fails(t, w, world.Op{Do: world.Deliver, A: 2}, api.ErrNone)
}

// P25.2
func TestReport(t *testing.T) {
	w := made(t, "p")
	for _, a := range []int{-1, 3, 8} {
		report(t, w, a, 0, 1, api.ErrArg)
	}
	report(t, w, 1, 0, 1, api.ErrNone)
	send(t, w, 0, 1, 0, "bad")
	report(t, w, 1, 0, 1, api.ErrNone)
	deliver(t, w, 1, "bad", 0, 0, 0)
	for _, n := range []int{1, -1, math.MinInt, math.MaxInt} {
		report(t, w, 1, n, 1, api.ErrNone)
	}
	// The sender has not received it.
	report(t, w, 0, 0, 1, api.ErrNone)
	for _, id := range []int{-1, 1000001, math.MinInt} {
		report(t, w, 1, 0, id, api.ErrArg)
		report(t, w, 1, 9, id, api.ErrNone)
	}
	tick(t, w, 50)
	report(t, w, 1, 0, 1000000, api.OK)
	report(t, w, 1, 0, 1000000, api.ErrTwice)
	report(t, w, 1, 0, 0, api.OK)
	tick(t, w, 1)
	report(t, w, 1, 0, 2, api.ErrOld)
	report(t, w, 1, 0, 0, api.ErrOld)
}

// P25.2, P25.4
func TestReportFull(t *testing.T) {
	w := made(t, "f")
	send(t, w, 0, 1, 0, "bad")
	deliver(t, w, 1, "bad", 0, 0, 0)
	for id := range 8 {
		report(t, w, 1, 0, id, api.OK)
	}
	report(t, w, 1, 0, 8, api.ErrFull)
	report(t, w, 1, 0, 3, api.ErrTwice)
	judge(t, w, 3, api.Clear, api.OK)
	report(t, w, 1, 0, 8, api.OK)
	report(t, w, 1, 0, 3, api.ErrTwice)
}

// P25.2
func TestJudge(t *testing.T) {
	w := made(t, "j")
	judge(t, w, 1, api.Strike, api.ErrNone)
	judge(t, w, 1, 0, api.ErrArg)
	judge(t, w, 1, 3, api.ErrArg)
	send(t, w, 2, 1, 0, "bad")
	deliver(t, w, 1, "bad", 2, 0, 0)
	report(t, w, 1, 0, 1, api.OK)
	report(t, w, 1, 0, 2, api.OK)
	judge(t, w, 1, -1, api.ErrArg)
	judge(t, w, 2, api.Clear, api.OK)
	counts(t, w, 2, 0)
	tick(t, w, 60)
	// A report that was taken in may be judged later; the strike has the present time.
	judge(t, w, 1, api.Strike, api.OK)
	judge(t, w, 1, api.Strike, api.ErrNone)
	counts(t, w, 2, 1)
	tick(t, w, 100)
	counts(t, w, 2, 1)
	tick(t, w, 1)
	counts(t, w, 2, 0)
}

// P25.2
func TestTick(t *testing.T) {
	w := made(t, "t")
	for _, n := range []int{-1, 101, math.MinInt, math.MaxInt} {
		fails(t, w, world.Op{Do: world.Tick, N: n}, api.ErrArg)
	}
	send(t, w, 0, 1, 0, "x")
	tick(t, w, 0)
	send(t, w, 0, 1, 0, "x")
	for range 9999 {
		tick(t, w, 100)
	}
	send(t, w, 0, 1, 999900, "x")
	tick(t, w, 99)
	fails(t, w, world.Op{Do: world.Tick, N: 2}, api.ErrArg)
	tick(t, w, 1)
	send(t, w, 0, 1, 1000000, "x")
	fails(t, w, world.Op{Do: world.Tick, N: 1}, api.ErrArg)
	tick(t, w, 0)
	deliver(t, w, 1, "x", 0, 0, 0)
	report(t, w, 1, 0, 1, api.ErrOld)
}

// P25.2
func TestOtherDo(t *testing.T) {
	w := made(t, "o")
	for _, do := range []int{-1, 8, 9, math.MinInt, math.MaxInt} {
		fails(t, w, world.Op{Do: do, A: 0, B: 1, N: 1, Text: []byte("x")}, api.ErrArg)
	}
	fails(t, w, world.Op{Do: world.Deliver, A: 1}, api.ErrNone)
}

// P25.2, P25.3: three strikes suspend an account, till one of them is past.
func TestSuspended(t *testing.T) {
	w := made(t, "g")
	struck(t, w, 10, 2, 0)
	tick(t, w, 20)
	send(t, w, 0, 1, 20, "still")
	deliver(t, w, 1, "still", 0, 20, 2)
	report(t, w, 1, 2, 20, api.OK)
	judge(t, w, 20, api.Strike, api.OK)
	counts(t, w, 0, 3)
	noSend(t, w, 0, 1, "x", api.ErrGone)
	// It still receives, and others still send.
	send(t, w, 1, 0, 20, "to you")
	deliver(t, w, 0, "to you", 1, 20, 0)
	tick(t, w, 80)
	counts(t, w, 0, 3)
	noSend(t, w, 0, 1, "x", api.ErrGone)
	tick(t, w, 1)
	counts(t, w, 0, 1)
	send(t, w, 0, 1, 101, "again")
	deliver(t, w, 1, "again", 0, 101, 3)
}

// P25.2: an appeal lifts the suspension at once.
func TestAppeal(t *testing.T) {
	w := made(t, "a")
	for _, a := range []int{-1, 3, 7, 8} {
		appeal(t, w, a, 1, api.ErrArg)
	}
	appeal(t, w, 0, 1, api.ErrNone)
	struck(t, w, 1, 3, 0)
	noSend(t, w, 0, 1, "x", api.ErrGone)
	appeal(t, w, 1, 1, api.ErrNone)
	appeal(t, w, 0, 4, api.ErrNone)
	appeal(t, w, 0, 1, api.OK)
	counts(t, w, 0, 2)
	send(t, w, 0, 1, 0, "x")
	appeal(t, w, 0, 1, api.ErrOld)
	appeal(t, w, 0, 2, api.OK)
	appeal(t, w, 0, 3, api.ErrRate)
	counts(t, w, 0, 1)
	tick(t, w, 50)
	appeal(t, w, 0, 3, api.OK)
	counts(t, w, 0, 0)
}

// P25.2, P25.4
func TestCrash(t *testing.T) {
	w := made(t, "c")
	struck(t, w, 1, 3, 0)
	tick(t, w, 10)
	appeal(t, w, 0, 2, api.OK)
	send(t, w, 0, 1, 10, "bad")
	deliver(t, w, 1, "bad", 0, 10, 3)
	report(t, w, 1, 3, 7, api.OK)
	report(t, w, 1, 3, 8, api.OK)
	judge(t, w, 8, api.Clear, api.OK)
	crash(t, w, 0)
	counts(t, w, 0, 2)
	// Open reports are lost, and so is what was judged without a strike.
	judge(t, w, 7, api.Strike, api.ErrNone)
	report(t, w, 1, 3, 8, api.OK)
	report(t, w, 1, 3, 7, api.OK)
	for id := 1; id < 4; id++ {
		report(t, w, 1, 3, id, api.ErrTwice)
	}
	judge(t, w, 7, api.Strike, api.OK)
	counts(t, w, 0, 3)
	noSend(t, w, 0, 1, "x", api.ErrGone)
	crash(t, w, -1)
	counts(t, w, 0, 3)
	noSend(t, w, 0, 1, "x", api.ErrGone)
	appeal(t, w, 0, 2, api.ErrOld)
	// The moderator's buckets are new.
	appeal(t, w, 0, 1, api.OK)
	appeal(t, w, 0, 3, api.OK)
	appeal(t, w, 0, 7, api.ErrRate)
	crash(t, w, 0)
	appeal(t, w, 0, 7, api.OK)
	counts(t, w, 0, 0)
	send(t, w, 0, 1, 10, "free")
	deliver(t, w, 1, "free", 0, 10, 4)
}

// P25.2: the power goes in a write, or in the sync after it, and what was pending is kept or not.
func TestFuse(t *testing.T) {
	for n := range 2 {
		for kept := range 2 {
			w := made(t, "u")
			struck(t, w, 1, 2, 0)
			send(t, w, 0, 1, 0, "bad")
			deliver(t, w, 1, "bad", 0, 0, 2)
			report(t, w, 1, 2, 5, api.OK)
			fuse(t, w, n)
			judge(t, w, 5, api.Strike, api.ErrDead)
			counts(t, w, 0, 2)
			judge(t, w, 5, api.Strike, api.ErrDead)
			appeal(t, w, 0, 1, api.ErrDead)
			// Clearing needs no disk.
			report(t, w, 1, 2, 6, api.OK)
			judge(t, w, 6, api.Clear, api.OK)
			fuse(t, w, -1)
			judge(t, w, 5, api.Strike, api.ErrDead)
			crash(t, w, kept)
			if n == 1 && kept == 1 {
				counts(t, w, 0, 3)
				noSend(t, w, 0, 1, "x", api.ErrGone)
				report(t, w, 1, 2, 5, api.ErrTwice)
			} else {
				counts(t, w, 0, 2)
				send(t, w, 0, 1, 0, "x")
				report(t, w, 1, 2, 5, api.OK)
			}
		}
	}
	w := made(t, "u")
	fuse(t, w, 4)
	struck(t, w, 1, 2, 0)
	fuse(t, w, -5)
	struck(t, w, 3, 1, 2)
	counts(t, w, 0, 3)
}

// P25.2: the disk of 64 sectors is full in the end.
func TestDiskFull(t *testing.T) {
	w := made(t, "full")
	send(t, w, 0, 1, 0, "bad")
	deliver(t, w, 1, "bad", 0, 0, 0)
	for id := range 64 {
		report(t, w, 1, 0, id, api.OK)
		judge(t, w, id, api.Strike, api.OK)
	}
	report(t, w, 1, 0, 64, api.OK)
	judge(t, w, 64, api.Strike, api.ErrFull)
	counts(t, w, 0, 64)
	appeal(t, w, 0, 1, api.ErrFull)
	crash(t, w, 0)
	counts(t, w, 0, 64)
}

// P25.3
func TestStrikesOfNone(t *testing.T) {
	w := made(t, "n")
	struck(t, w, 1, 1, 0)
	for _, a := range []int{-1, 3, 7, 8, math.MinInt, math.MaxInt} {
		counts(t, w, a, 0)
	}
}

// P25.2: the texts of steps and results are the caller's.
func TestNothingShared(t *testing.T) {
	w := made(t, "m")
	text := []byte("text")
	if out := w.Do(world.Op{Do: world.Send, A: 0, B: 1, Text: text}); out.E != api.OK {
		t.Fatal(out)
	}
	copy(text, "xxxx")
	out := w.Do(world.Op{Do: world.Deliver, A: 1})
	if string(out.Text) != "text" {
		t.Fatal(out)
	}
	copy(out.Text, "yyyy")
	// The text that was received is still the one that can be reported.
	report(t, w, 1, 0, 1, api.OK)
}

// randomSteps are the same for the same seed.
func randomSteps(seed int64, many int) []world.Op {
	r := rand.New(rand.NewSource(seed))
	var l []world.Op
	for i := range many {
		o := world.Op{A: r.Intn(3), B: r.Intn(3)}
		switch r.Intn(40) {
		case 0:
			// The first pending sector is never kept: what was in progress does not come about.
			o.Do, o.N = world.Crash, 2*r.Intn(2)
		case 1:
			o.Do, o.N = world.Fuse, r.Intn(30)-10
		case 2, 3, 4, 5:
			o.Do, o.N = world.Tick, r.Intn(15)
		case 6, 7, 8:
			o.Do, o.N = world.Appeal, r.Intn(20)
		case 9, 10, 11, 12, 13, 14:
			o.Do, o.N, o.B = world.Report, r.Intn(12), r.Intn(20)
		case 15, 16, 17, 18, 19, 20:
			o.Do, o.N, o.B = world.Judge, r.Intn(20), api.Strike
			if r.Intn(4) == 0 {
				o.B = api.Clear
			}
		case 21, 22, 23, 24, 25, 26, 27, 28, 29:
			o.Do = world.Deliver
		default:
			o.Do, o.Text = world.Send, []byte(fmt.Sprint("text ", i))
		}
		l = append(l, o)
	}
	return l
}

// P25.4: messages come from who is named, each once, and in order; strikes are neither lost nor made up.
func TestTheorem(t *testing.T) {
	var done [8]int
	for seed := range int64(40) {
		w := made(t, fmt.Sprint(seed))
		now := 0
		type sent struct {
			from, to, time int
			text           string
		}
		var waiting []sent
		var received [3][]sent
		open := map[int]int{}   // the numbers of open reports, and whom they accuse
		struck := map[int]int{} // the numbers of strikes, and whose they are
		revoked := map[int]bool{}
		times := map[int]int{}
		check := func(o world.Op) {
			t.Helper()
			for a := range 3 {
				want := 0
				for id, whose := range struck {
					if whose == a && !revoked[id] && times[id] >= now-100 {
						want++
					}
				}
				if got := w.Strikes(a); got != want {
					t.Fatal(seed, o, a, got, want)
				}
			}
		}
		for _, o := range randomSteps(seed, 300) {
			gone := w.Strikes(o.A) >= 3
			out := w.Do(o)
			ok := out.E == api.OK
			if ok {
				done[o.Do]++
			}
			switch o.Do {
			case world.Send:
				if ok {
					if gone {
						t.Fatal("a suspended one sends", seed, o)
					}
					waiting = append(waiting, sent{o.A, o.B, now, string(o.Text)})
				}
			case world.Deliver:
				at := -1
				for i := range waiting {
					if waiting[i].to == o.A {
						at = i
						break
					}
				}
				if at < 0 {
					if out.E != api.ErrNone {
						t.Fatal(seed, o, out)
					}
					break
				}
				m := waiting[at]
				waiting = append(waiting[:at:at], waiting[at+1:]...)
				if ok {
					if out.From != m.from || out.Time != m.time || string(out.Text) != m.text || out.N != len(received[o.A]) {
						t.Fatal(seed, o, out, m)
					}
					received[o.A] = append(received[o.A], m)
				} else if out.E != api.ErrSkip && out.E != api.ErrMac {
					t.Fatal(seed, o, out)
				}
			case world.Report:
				_, isOpen := open[o.B]
				_, isStruck := struck[o.B]
				is := o.N < len(received[o.A])
				fresh := is && now-received[o.A][o.N].time <= 50
				if ok {
					if !fresh || isOpen || isStruck || len(open) >= 8 {
						t.Fatal(seed, o, out)
					}
					open[o.B] = received[o.A][o.N].from
				} else if fresh && len(open) < 8 && out.E != api.ErrTwice {
					t.Fatal(seed, o, out)
				}
			case world.Judge:
				whose, is := open[o.N]
				if is != (out.E != api.ErrNone) {
					t.Fatal(seed, o, out)
				}
				if ok {
					delete(open, o.N)
					if o.B == api.Strike {
						struck[o.N], times[o.N] = whose, now
					}
				} else if is && out.E != api.ErrDead && out.E != api.ErrFull {
					t.Fatal(seed, o, out)
				}
			case world.Tick:
				now += o.N
			case world.Appeal:
				if ok {
					if whose, is := struck[o.N]; !is || whose != o.A || revoked[o.N] {
						t.Fatal(seed, o, out)
					}
					revoked[o.N] = true
				}
			case world.Crash:
				open = map[int]int{}
			}
			check(o)
		}
	}
	for do, many := range done {
		if many < 5 {
			t.Errorf("step %d came about %d times only", do, many)
		}
	}
}

// P25.4: the same seed and steps, the same world.
func TestSameAgain(t *testing.T) {
	steps := randomSteps(99, 150)
	a, b := made(t, "same"), made(t, "same")
	for _, o := range steps {
		if x, y := a.Do(o), b.Do(o); !reflect.DeepEqual(x, y) {
			t.Fatal(o, x, y)
		}
	}
}
