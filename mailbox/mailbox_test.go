package mailbox_test

import (
	"bytes"
	"math"
	"math/rand"
	"testing"

	"palfrey/api"
	"palfrey/mailbox"
)

func envelope(n int) api.Envelope {
	return api.Envelope{From: n % 8, To: 3, Commit: api.Key{byte(n)}, Head: api.Head{Public: api.Key{9}, Prev: 1, N: n}, Body: []byte{byte(n), 1, 2}}
}

func stamp(n int) api.Stamp {
	return api.Stamp{Epoch: n, From: n % 8, To: 3, Time: n, Tag: api.Key{byte(n)}}
}

func put(t *testing.T, b *mailbox.Box, n, want int) {
	t.Helper()
	if id, e := b.Put(envelope(n), stamp(n)); e != api.OK || id != want {
		t.Fatal(n, id, e)
	}
}

func ack(t *testing.T, b *mailbox.Box, id int, want api.Errno) {
	t.Helper()
	if e := b.Ack(id); e != want {
		t.Errorf("Ack(%d): %v, not %v", id, e, want)
	}
}

// listed tells whether the box holds just the envelopes n, each with the number that it was put by.
func listed(t *testing.T, b *mailbox.Box, numbers map[int]int, order ...int) {
	t.Helper()
	l := b.List()
	if len(l) != len(order) {
		t.Fatal(len(l), order)
	}
	for i, n := range order {
		want := envelope(n)
		got := l[i]
		if got.ID != numbers[n] || got.S != stamp(n) || got.E.From != want.From || got.E.To != want.To || got.E.Commit != want.Commit || got.E.Head != want.Head || !bytes.Equal(got.E.Body, want.Body) {
			t.Error(i, n, got)
		}
	}
}

// P19.1
func TestPut(t *testing.T) {
	b := mailbox.New()
	if len(b.List()) != 0 {
		t.Error("a new box is not empty")
	}
	numbers := map[int]int{}
	var order []int
	for n := range 8 {
		put(t, b, n+10, n+1)
		numbers[n+10] = n + 1
		order = append(order, n+10)
		listed(t, b, numbers, order...)
	}
	for range 2 {
		if id, e := b.Put(envelope(99), stamp(99)); e != api.ErrFull || id != 0 {
			t.Error(id, e)
		}
	}
	listed(t, b, numbers, order...)
	// What was refused has not used up a number.
	ack(t, b, 1, api.OK)
	put(t, b, 99, 9)
	numbers[99] = 9
	listed(t, b, numbers, 11, 12, 13, 14, 15, 16, 17, 99)
}

// P19.1
func TestPutErrors(t *testing.T) {
	b := mailbox.New()
	bad := func() {
		t.Helper()
		for _, change := range []func(*api.Envelope){
			func(e *api.Envelope) { e.From = 8 },
			func(e *api.Envelope) { e.To = -1 },
			func(e *api.Envelope) { e.Head.N = -1 },
			func(e *api.Envelope) { e.Head.Prev = 1000001 },
			func(e *api.Envelope) { e.Body = make([]byte, 601) },
		} {
			e := envelope(1)
			change(&e)
			if id, no := b.Put(e, stamp(1)); no != api.ErrArg || id != 0 {
				t.Error(id, no)
			}
		}
	}
	bad()
	// The stamp is not looked at, and a body of 600 bytes is not too long.
	e := envelope(1)
	e.Body = make([]byte, 600)
	if id, no := b.Put(e, api.Stamp{Epoch: -5, From: 99}); no != api.OK || id != 1 {
		t.Error(id, no)
	}
	if l := b.List(); len(l) != 1 || l[0].S != (api.Stamp{Epoch: -5, From: 99}) {
		t.Error(l)
	}
	for n := range 7 {
		put(t, b, n, n+2)
	}
	// Not valid comes ahead of full.
	bad()
}

// P19.2
func TestAck(t *testing.T) {
	b := mailbox.New()
	for _, id := range []int{0, 1, -1, math.MinInt, math.MaxInt} {
		ack(t, b, id, api.ErrNone)
	}
	numbers := map[int]int{20: 1, 21: 2, 22: 3, 23: 4}
	put(t, b, 20, 1)
	put(t, b, 21, 2)
	put(t, b, 22, 3)
	ack(t, b, 4, api.ErrNone)
	ack(t, b, 0, api.ErrNone)
	ack(t, b, 2, api.OK)
	listed(t, b, numbers, 20, 22)
	ack(t, b, 2, api.ErrOld)
	listed(t, b, numbers, 20, 22)
	ack(t, b, 3, api.OK)
	listed(t, b, numbers, 20)
	put(t, b, 23, 4)
	listed(t, b, numbers, 20, 23)
	ack(t, b, 1, api.OK)
	ack(t, b, 1, api.ErrOld)
	ack(t, b, 4, api.OK)
	listed(t, b, numbers)
	for id := 1; id < 5; id++ {
		ack(t, b, id, api.ErrOld)
	}
	ack(t, b, 5, api.ErrNone)
}

// P19.3
func TestNothingShared(t *testing.T) {
	b := mailbox.New()
	e := envelope(1)
	if _, no := b.Put(e, stamp(1)); no != api.OK {
		t.Fatal(no)
	}
	put(t, b, 2, 2)
	e.Body[0] = 77
	numbers := map[int]int{1: 1, 2: 2}
	listed(t, b, numbers, 1, 2)
	l := b.List()
	l[0].E.Body[0], l[0].ID, l[1].E.From = 88, 99, 7
	l = append(l[:1], mailbox.Mail{})
	_ = append(l[0].E.Body, 1, 2, 3)
	listed(t, b, numbers, 1, 2)
	// A list stays as it was when it was asked for.
	l = b.List()
	ack(t, b, 1, api.OK)
	put(t, b, 3, 3)
	if l[0].ID != 1 || l[1].ID != 2 || l[0].E.Body[0] != 1 {
		t.Error(l)
	}
}

// P19.3: against a list that is as plain as can be.
func TestAgainstList(t *testing.T) {
	r := rand.New(rand.NewSource(19))
	b := mailbox.New()
	numbers := map[int]int{}
	var order []int
	last := 0
	for n := range 3000 {
		if r.Intn(2) == 0 {
			id, e := b.Put(envelope(n), stamp(n))
			if len(order) == 8 {
				if e != api.ErrFull || id != 0 {
					t.Fatal(id, e)
				}
			} else {
				last++
				if e != api.OK || id != last {
					t.Fatal(id, e)
				}
				numbers[n] = id
				order = append(order, n)
			}
		} else {
			id := last - 10 + r.Intn(13)
			want := api.ErrOld
			if id < 1 || id > last {
				want = api.ErrNone
			}
			for i, n := range order {
				if numbers[n] == id {
					want = api.OK
					order = append(order[:i:i], order[i+1:]...)
					break
				}
			}
			ack(t, b, id, want)
		}
		listed(t, b, numbers, order...)
	}
}
