package ratchet_test

import (
	"bytes"
	"fmt"
	"math/rand"
	"testing"

	"palfrey/api"
	"palfrey/chain"
	"palfrey/head"
	"palfrey/keys"
	"palfrey/octets"
	"palfrey/ratchet"
	"palfrey/seal"
)

var shared = api.Key{1, 2, 3}

type message struct {
	h      api.Head
	body   []byte
	text   string
	beside string
}

// couple are a session that began, the one that answers, and their sources.
func couple(t *testing.T) (a, b *ratchet.Session, ofA, ofB *keys.Source) {
	t.Helper()
	signed := keys.Pair([]byte("signed"))
	ofA, ofB = keys.New([]byte("a")), keys.New([]byte("b"))
	a, e := ratchet.Begin(shared, signed.Public, ofA)
	if e != api.OK || a == nil {
		t.Fatal(e)
	}
	return a, ratchet.Answer(shared, signed, ofB), ofA, ofB
}

func send(t *testing.T, s *ratchet.Session, text string) message {
	t.Helper()
	h, body, e := s.Send([]byte("beside"), []byte(text))
	if e != api.OK {
		t.Fatal(text, e)
	}
	return message{h, body, text, "beside"}
}

func sendMany(t *testing.T, s *ratchet.Session, many int) []message {
	t.Helper()
	var l []message
	for i := range many {
		l = append(l, send(t, s, fmt.Sprint("text ", i)))
	}
	return l
}

func recv(t *testing.T, s *ratchet.Session, m message) {
	t.Helper()
	got, e := s.Recv([]byte(m.beside), m.h, m.body)
	if e != api.OK || string(got) != m.text {
		t.Errorf("%q: %q %v", m.text, got, e)
	}
}

func refused(t *testing.T, s *ratchet.Session, m message, want api.Errno) {
	t.Helper()
	kept := s.Kept()
	got, e := s.Recv([]byte(m.beside), m.h, m.body)
	if e != want || len(got) != 0 {
		t.Errorf("%q: %q %v, not %v", m.text, got, e, want)
	}
	if s.Kept() != kept {
		t.Errorf("%q: %d kept, not %d", m.text, s.Kept(), kept)
	}
}

func kept(t *testing.T, s *ratchet.Session, want int) {
	t.Helper()
	if got := s.Kept(); got != want {
		t.Errorf("%d kept, not %d", got, want)
	}
}

func body(k api.Key, beside string, h api.Head, text string) []byte {
	b, _ := head.Bytes(h)
	return seal.Close(k, octets.Join([]byte(beside), b), []byte(text))
}

// P13.1, P13.2: the messages of who began, computed from the layers below.
func TestBeginAndSend(t *testing.T) {
	a, _, ofA, _ := couple(t)
	if ofA.Many() != 1 {
		t.Error(ofA.Many())
	}
	own := keys.New([]byte("a")).Pair()
	common, _ := keys.Common(own, keys.Pair([]byte("signed")).Public)
	_, sending := chain.Root(shared, common)
	for n := range 20 {
		var k api.Key
		k, sending = chain.Step(sending)
		want := api.Head{Public: own.Public, N: n}
		h, b, e := a.Send([]byte("x"), []byte("hello"))
		if e != api.OK || h != want || !bytes.Equal(b, body(k, "x", want, "hello")) {
			t.Fatal(n, h, e)
		}
	}
	if ofA.Many() != 1 {
		t.Error(ofA.Many())
	}
	kept(t, a, 0)
}

// P13.1
func TestBeginWithoutKey(t *testing.T) {
	for _, public := range []api.Key{{}, {1}} {
		src := keys.New([]byte("a"))
		s, e := ratchet.Begin(shared, public, src)
		if e != api.ErrKey || s != nil || src.Many() != 1 {
			t.Error(s, e, src.Many())
		}
	}
	if s, e := ratchet.Begin(shared, keys.Pair(nil).Public, nil); e != api.ErrArg || s != nil {
		t.Error(s, e)
	}
}

// P13.1, P13.2
func TestAnswerCannotSendFirst(t *testing.T) {
	a, b, _, ofB := couple(t)
	for _, text := range [][]byte{nil, []byte("x"), make([]byte, 301)} {
		if h, body, e := b.Send(nil, text); e != api.ErrNone || h != (api.Head{}) || len(body) != 0 {
			t.Error(h, body, e)
		}
	}
	kept(t, b, 0)
	recv(t, b, send(t, a, "now"))
	if ofB.Many() != 0 {
		t.Error("a pair was taken before it was needed")
	}
	recv(t, a, send(t, b, "then"))
	if ofB.Many() != 1 {
		t.Error(ofB.Many())
	}
}

// P13.2
func TestSendLength(t *testing.T) {
	a, b, _, ofB := couple(t)
	if h, body, e := a.Send(nil, make([]byte, 301)); e != api.ErrArg || h != (api.Head{}) || len(body) != 0 {
		t.Error(h, len(body), e)
	}
	long := send(t, a, string(make([]byte, 300)))
	if long.h.N != 0 || len(long.body) != 332 {
		t.Error(long.h.N, len(long.body))
	}
	recv(t, b, long)
	// A text that is too long makes no one turn.
	if _, _, e := b.Send(nil, make([]byte, 301)); e != api.ErrArg || ofB.Many() != 0 {
		t.Error(e, ofB.Many())
	}
	recv(t, b, send(t, a, ""))
}

// P13.2, P13.3: three turns, computed from the layers below.
func TestTurns(t *testing.T) {
	a, b, _, _ := couple(t)
	signed := keys.Pair([]byte("signed"))
	srcA, srcB := keys.New([]byte("a")), keys.New([]byte("b"))
	ownA := srcA.Pair()
	common, _ := keys.Common(ownA, signed.Public)
	root, sending := chain.Root(shared, common)
	for n := range 3 {
		m := send(t, a, "x")
		_, sending = chain.Step(sending)
		if m.h != (api.Head{Public: ownA.Public, N: n}) {
			t.Error(m.h)
		}
		recv(t, b, m)
	}
	// b turns.
	ownB := srcB.Pair()
	common, _ = keys.Common(ownB, ownA.Public)
	root, sending = chain.Root(root, common)
	for n := range 2 {
		var k api.Key
		k, sending = chain.Step(sending)
		m := send(t, b, "y")
		want := api.Head{Public: ownB.Public, N: n}
		if m.h != want || !bytes.Equal(m.body, body(k, "beside", want, "y")) {
			t.Error(m.h)
		}
		recv(t, a, m)
	}
	// a turns: three were sent on its previous chain.
	ownA = srcA.Pair()
	common, _ = keys.Common(ownA, ownB.Public)
	root, sending = chain.Root(root, common)
	k, _ := chain.Step(sending)
	m := send(t, a, "z")
	want := api.Head{Public: ownA.Public, Prev: 3}
	if m.h != want || !bytes.Equal(m.body, body(k, "beside", want, "z")) {
		t.Error(m.h)
	}
	recv(t, b, m)
	// b turns again: two were sent on its previous chain.
	ownB = srcB.Pair()
	common, _ = keys.Common(ownB, ownA.Public)
	_, sending = chain.Root(root, common)
	k, _ = chain.Step(sending)
	m = send(t, b, "w")
	want = api.Head{Public: ownB.Public, Prev: 2}
	if m.h != want || !bytes.Equal(m.body, body(k, "beside", want, "w")) {
		t.Error(m.h)
	}
	recv(t, a, m)
}

// P13.3
func TestRecvArg(t *testing.T) {
	a, b, _, _ := couple(t)
	m := send(t, a, "x")
	for _, h := range []api.Head{{Public: m.h.Public, Prev: -1}, {Public: m.h.Public, N: -1}, {Public: m.h.Public, N: 1000001}, {Prev: 1000001}} {
		bad := m
		bad.h = h
		refused(t, b, bad, api.ErrArg)
	}
	recv(t, b, m)
}

// P13.3: what cannot be opened changes nothing.
func TestRecvChanged(t *testing.T) {
	a, b, _, ofB := couple(t)
	l := sendMany(t, a, 4)
	spoil := func(m message) {
		t.Helper()
		for i := range m.body {
			bad := m
			bad.body = bytes.Clone(m.body)
			bad.body[i] ^= 1
			refused(t, b, bad, api.ErrMac)
		}
		bad := m
		bad.beside = "besides"
		refused(t, b, bad, api.ErrMac)
		bad = m
		bad.h.Prev++
		refused(t, b, bad, api.ErrMac)
		for n := range 32 {
			bad = m
			bad.body = m.body[:n]
			refused(t, b, bad, api.ErrShort)
		}
	}
	spoil(l[0])
	if _, _, e := b.Send(nil, nil); e != api.ErrNone {
		t.Error("a message that was not received makes one turn", e)
	}
	spoil(l[2])
	recv(t, b, l[0])
	spoil(l[1])
	spoil(l[3])
	kept(t, b, 0)
	recv(t, b, l[3])
	kept(t, b, 2)
	// Those whose keys are kept.
	spoil(l[1])
	spoil(l[2])
	kept(t, b, 2)
	recv(t, b, l[1])
	recv(t, b, l[2])
	kept(t, b, 0)
	if ofB.Many() != 0 {
		t.Error(ofB.Many())
	}
}

// P13.3
func TestRecvOld(t *testing.T) {
	a, b, _, _ := couple(t)
	// The other party's key is known to who began, but there is no receiving chain yet.
	signed := keys.Pair([]byte("signed")).Public
	refused(t, a, message{h: api.Head{Public: signed}, body: make([]byte, 40)}, api.ErrOld)
	l := sendMany(t, a, 3)
	for _, m := range l {
		recv(t, b, m)
		refused(t, b, m, api.ErrOld)
	}
	for _, m := range l {
		refused(t, b, m, api.ErrOld)
	}
	// Old comes ahead of what is wrong with a body.
	bad := l[1]
	bad.body = nil
	refused(t, b, bad, api.ErrOld)
	recv(t, b, send(t, a, "next"))
}

// P13.3
func TestRecvKey(t *testing.T) {
	a, b, _, _ := couple(t)
	m := send(t, a, "x")
	bad := m
	bad.h.Public = api.Key{1}
	refused(t, b, bad, api.ErrKey)
	recv(t, b, m)
	refused(t, b, bad, api.ErrKey)
	// Too far ahead comes first, because it is looked at first.
	bad.h.Prev = 10
	refused(t, b, bad, api.ErrSkip)
	bad.h.Prev = 9
	refused(t, b, bad, api.ErrKey)
	recv(t, b, send(t, a, "y"))
}

// P13.3, P13.4
func TestSkip(t *testing.T) {
	a, b, _, _ := couple(t)
	l := sendMany(t, a, 30)
	refused(t, b, l[9], api.ErrSkip)
	refused(t, b, l[29], api.ErrSkip)
	recv(t, b, l[8])
	kept(t, b, 8)
	refused(t, b, l[8], api.ErrOld)
	refused(t, b, l[18], api.ErrSkip)
	recv(t, b, l[3])
	kept(t, b, 7)
	refused(t, b, l[3], api.ErrOld)
	// Three more are kept: the two that were put first go, and these are 0 and 1.
	recv(t, b, l[12])
	kept(t, b, 8)
	refused(t, b, l[0], api.ErrOld)
	refused(t, b, l[1], api.ErrOld)
	for _, n := range []int{2, 4, 5, 6, 7, 9, 10, 11} {
		recv(t, b, l[n])
	}
	kept(t, b, 0)
	recv(t, b, l[13])
	recv(t, b, l[22])
	kept(t, b, 8)
	recv(t, b, l[23])
	kept(t, b, 8)
	recv(t, b, l[14])
	kept(t, b, 7)
}

// P13.3: messages of the previous chain that come after the turn.
func TestSkipOverTurn(t *testing.T) {
	a, b, _, _ := couple(t)
	first := sendMany(t, a, 5)
	recv(t, b, first[0])
	recv(t, a, send(t, b, "turn"))
	second := sendMany(t, a, 4)
	if second[0].h.Prev != 5 {
		t.Error(second[0].h)
	}
	recv(t, b, second[2])
	// Four of the first chain, two of the second one.
	kept(t, b, 6)
	for _, m := range []message{first[3], second[1], first[1], second[0], first[4], first[2], second[3]} {
		recv(t, b, m)
		// A second time, one of the present chain is old; one of the previous chain looks like a turn, and cannot be opened.
		if m.h.Public == second[0].h.Public {
			refused(t, b, m, api.ErrOld)
		} else {
			refused(t, b, m, api.ErrMac)
		}
	}
	kept(t, b, 0)
	refused(t, b, first[0], api.ErrMac)
}

// P13.3: at most 8 of each chain may be skipped, and the last 8 are kept.
func TestSkipOverTurnFull(t *testing.T) {
	a, b, _, _ := couple(t)
	first := sendMany(t, a, 9)
	recv(t, b, first[0])
	recv(t, a, send(t, b, "turn"))
	second := sendMany(t, a, 9)
	recv(t, b, second[8])
	kept(t, b, 8)
	refused(t, b, first[8], api.ErrMac)
	for n := range 8 {
		recv(t, b, second[n])
	}
	// One more of the first chain is one too many.
	a, b, _, _ = couple(t)
	first = sendMany(t, a, 10)
	recv(t, b, first[0])
	recv(t, a, send(t, b, "turn"))
	late := send(t, a, "late")
	refused(t, b, late, api.ErrSkip)
	recv(t, b, first[1])
	recv(t, b, late)
	kept(t, b, 8)
	recv(t, b, first[9])
}

// P13.3: without a receiving chain nothing is skipped for the previous chain.
func TestPrevWithoutChain(t *testing.T) {
	signed := keys.Pair([]byte("signed"))
	own := keys.Pair([]byte("own"))
	common, _ := keys.Common(own, signed.Public)
	_, sending := chain.Root(shared, common)
	k, _ := chain.Step(sending)
	h := api.Head{Public: own.Public, Prev: 1000000}
	b := ratchet.Answer(shared, signed, keys.New(nil))
	recv(t, b, message{h, body(k, "beside", h, "far"), "far", "beside"})
	kept(t, b, 0)
}

// P13.3: a lower Prev than was received skips nothing.
func TestLowPrev(t *testing.T) {
	a, b, _, _ := couple(t)
	for _, m := range sendMany(t, a, 3) {
		recv(t, b, m)
	}
	// What a would send after a turn, had it sent nothing before.
	ownA := keys.New([]byte("a")).Pair()
	common, _ := keys.Common(ownA, keys.Pair([]byte("signed")).Public)
	root, _ := chain.Root(shared, common)
	own := keys.Pair([]byte("fresh"))
	// b has not turned, so its pair is still the signed one.
	common, _ = keys.Common(own, keys.Pair([]byte("signed")).Public)
	_, sending := chain.Root(root, common)
	k, _ := chain.Step(sending)
	h := api.Head{Public: own.Public}
	recv(t, b, message{h, body(k, "beside", h, "low"), "low", "beside"})
	kept(t, b, 0)
}

// P13.3: a key that is kept is asked first, even if its public key is that of an earlier chain.
func TestKeptFirst(t *testing.T) {
	a, b, _, ofB := couple(t)
	first := sendMany(t, a, 2)
	recv(t, b, first[1])
	recv(t, a, send(t, b, "turn"))
	recv(t, b, send(t, a, "second"))
	recv(t, b, first[0])
	// The late message of the first chain did not change the direction.
	before := ofB.Many()
	m := send(t, b, "reply")
	recv(t, a, m)
	if ofB.Many() != before+1 {
		t.Error(ofB.Many())
	}
}

// P13.2: a session that has turned goes on with its chain until it hears a new key.
func TestTurnOnce(t *testing.T) {
	a, b, ofA, ofB := couple(t)
	recv(t, b, send(t, a, "1"))
	for range 3 {
		recv(t, a, send(t, b, "2"))
	}
	if ofB.Many() != 1 {
		t.Error(ofB.Many())
	}
	for range 3 {
		recv(t, b, send(t, a, "3"))
	}
	if ofA.Many() != 2 {
		t.Error(ofA.Many())
	}
}

// P13.2: both sessions may take their pairs from one source.
func TestSharedSource(t *testing.T) {
	src := keys.New([]byte("both"))
	signed := src.Pair()
	a, e := ratchet.Begin(shared, signed.Public, src)
	if e != api.OK || src.Many() != 2 {
		t.Fatal(e, src.Many())
	}
	b := ratchet.Answer(shared, signed, src)
	for i := range 5 {
		recv(t, b, send(t, a, "to b"))
		recv(t, a, send(t, b, "to a"))
		if src.Many() != 3+2*i {
			t.Error(src.Many())
		}
	}
}

// P13.2: a session without a source cannot turn, and says so.
func TestNoSource(t *testing.T) {
	signed := keys.Pair([]byte("signed"))
	a, _ := ratchet.Begin(shared, signed.Public, keys.New([]byte("a")))
	b := ratchet.Answer(shared, signed, nil)
	recv(t, b, send(t, a, "x"))
	if _, _, e := b.Send(nil, nil); e != api.ErrArg {
		t.Error(e)
	}
	recv(t, b, send(t, a, "y"))
}

// P13.5: in order, with changes of direction as they come.
func TestInOrder(t *testing.T) {
	r := rand.New(rand.NewSource(13))
	a, b, _, _ := couple(t)
	recv(t, b, send(t, a, "first"))
	for i := range 120 {
		from, to := a, b
		if r.Intn(2) == 0 {
			from, to = b, a
		}
		for range 1 + r.Intn(3) {
			m := send(t, from, fmt.Sprint(i))
			recv(t, to, m)
			kept(t, to, 0)
		}
	}
}

// P13.5: crossed messages, each late by at most 8, come through once.
func TestLate(t *testing.T) {
	r := rand.New(rand.NewSource(14))
	a, b, _, _ := couple(t)
	recv(t, b, send(t, a, "first"))
	recv(t, a, send(t, b, "second"))
	sides := [2]*ratchet.Session{a, b}
	var waiting [2][]message
	deliver := func(side int) {
		l := waiting[side]
		i := r.Intn(len(l))
		m := l[i]
		waiting[side] = append(l[:i:i], l[i+1:]...)
		recv(t, sides[side], m)
		got, e := sides[side].Recv([]byte(m.beside), m.h, m.body)
		if e != api.ErrOld && e != api.ErrMac && e != api.ErrSkip || len(got) != 0 {
			t.Errorf("twice: %q %v", got, e)
		}
	}
	for i := range 300 {
		side := r.Intn(2)
		if len(waiting[1-side]) < 5 {
			waiting[1-side] = append(waiting[1-side], send(t, sides[side], fmt.Sprint(i)))
		}
		if side = r.Intn(2); len(waiting[side]) > 0 {
			deliver(side)
		}
	}
	for side := range 2 {
		for len(waiting[side]) > 0 {
			deliver(side)
		}
	}
}

// P13.5: the arguments and results of a call are the caller's.
func TestNothingShared(t *testing.T) {
	a, b, _, _ := couple(t)
	text, beside := []byte("text"), []byte("beside")
	h, body, _ := a.Send(beside, text)
	keptBody := bytes.Clone(body)
	got, e := b.Recv(beside, h, body)
	if e != api.OK || string(got) != "text" || string(text) != "text" || string(beside) != "beside" || !bytes.Equal(body, keptBody) {
		t.Error(got, e)
	}
	got[0] = 'x'
	if !bytes.Equal(body, keptBody) {
		t.Error("the result shares memory with the argument")
	}
}
