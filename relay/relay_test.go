package relay_test

import (
	"bytes"
	"fmt"
	"math"
	"testing"

	"palfrey/api"
	"palfrey/blake"
	"palfrey/head"
	"palfrey/mailbox"
	"palfrey/relay"
	"palfrey/stamp"
)

var root = api.Key{1, 31: 2}

func link(account int) api.Key { return api.Key{100, byte(account)} }

func bundle(account int) api.Bundle {
	return api.Bundle{Identity: api.Key{10, byte(account)}, Signed: api.Key{20, byte(account)}}
}

// made is a relay with these accounts.
func made(t *testing.T, accounts ...int) *relay.Relay {
	t.Helper()
	r, e := relay.New(root, 10)
	if e != api.OK || r == nil {
		t.Fatal(e)
	}
	for _, a := range accounts {
		if e := r.Register(a, link(a), bundle(a), nil); e != api.OK {
			t.Fatal(a, e)
		}
	}
	return r
}

func envelope(from, to, n int) api.Envelope {
	return api.Envelope{From: from, To: to, Commit: api.Key{byte(n)}, Head: api.Head{N: n}, Body: []byte(fmt.Sprint("body ", n))}
}

func tagged(t *testing.T, e api.Envelope) api.Key {
	t.Helper()
	tag, no := relay.Tag(link(e.From), e)
	if no != api.OK {
		t.Fatal(no)
	}
	return tag
}

func send(t *testing.T, r *relay.Relay, e api.Envelope, now int, want api.Errno) {
	t.Helper()
	s, no := r.Send(e, tagged(t, e), now)
	if no != want {
		t.Errorf("%d to %d at %d: %v, not %v", e.From, e.To, now, no, want)
	}
	if no != api.OK && s != (api.Stamp{}) {
		t.Error(s)
	}
}

func mails(t *testing.T, r *relay.Relay, account int) []mailbox.Mail {
	t.Helper()
	l, e := r.Mails(account)
	if e != api.OK {
		t.Fatal(account, e)
	}
	return l
}

// P20.1
func TestNew(t *testing.T) {
	for _, ticks := range []int{0, -1, 1000001} {
		if r, e := relay.New(root, ticks); e != api.ErrArg || r != nil {
			t.Error(ticks, r, e)
		}
	}
	r := made(t)
	for a := -1; a < 9; a++ {
		if b, e := r.Fetch(a); e != api.ErrNone || b != (api.Bundle{}) {
			t.Error(a, b, e)
		}
		if l, e := r.Mails(a); e != api.ErrNone || len(l) != 0 {
			t.Error(a, l, e)
		}
		if e := r.Ack(a, 1); e != api.ErrNone {
			t.Error(a, e)
		}
		if e := r.Suspend(a, true); e != api.ErrNone {
			t.Error(a, e)
		}
	}
}

// P20.1
func TestRegister(t *testing.T) {
	r := made(t)
	for _, a := range []int{-1, 8, math.MinInt, math.MaxInt} {
		if e := r.Register(a, link(0), bundle(0), nil); e != api.ErrArg {
			t.Error(a, e)
		}
	}
	if e := r.Register(3, link(3), bundle(3), make([]api.Key, 9)); e != api.ErrArg {
		t.Error(e)
	}
	if _, e := r.Fetch(3); e != api.ErrNone {
		t.Error("registered by an error", e)
	}
	for _, a := range []int{0, 3, 7} {
		if e := r.Register(a, link(a), bundle(a), make([]api.Key, 8)); e != api.OK {
			t.Error(a, e)
		}
		if e := r.Register(a, link(1), bundle(1), nil); e != api.ErrTwice {
			t.Error(a, e)
		}
		// Too many keys come first.
		if e := r.Register(a, link(1), bundle(1), make([]api.Key, 9)); e != api.ErrArg {
			t.Error(a, e)
		}
		if b, e := r.Fetch(a); e != api.OK || b.Identity != bundle(a).Identity {
			t.Error("the second registration counts", b, e)
		}
		if len(mails(t, r, a)) != 0 {
			t.Error("a new mailbox is not empty")
		}
	}
	send(t, r, envelope(0, 3, 1), 0, api.OK)
}

// P20.2, P20.6
func TestFetch(t *testing.T) {
	r := made(t)
	once := []api.Key{{1}, {2}, {3}, {}, {5}, {6}, {7}, {8}}
	given := append([]api.Key(nil), once...)
	registered := bundle(2)
	registered.Once, registered.HasOnce = api.Key{99}, true
	if e := r.Register(2, link(2), registered, given); e != api.OK {
		t.Fatal(e)
	}
	for i := range given {
		given[i] = api.Key{77}
	}
	for i, k := range once {
		want := bundle(2)
		want.Once, want.HasOnce = k, true
		if got, e := r.Fetch(2); e != api.OK || got != want {
			t.Error(i, got, e)
		}
	}
	for range 3 {
		if got, e := r.Fetch(2); e != api.OK || got != bundle(2) {
			t.Error(got, e)
		}
	}
	// Of another account none was taken.
	if e := r.Register(3, link(3), registered, once[:1]); e != api.OK {
		t.Fatal(e)
	}
	if got, e := r.Fetch(3); e != api.OK || got.Once != once[0] || !got.HasOnce {
		t.Error(got, e)
	}
}

// P20.3
func TestTag(t *testing.T) {
	e := envelope(1, 2, 3)
	b, _ := head.Envelope(e)
	k := link(1)
	want, _ := blake.Mac(k[:], b)
	if got, no := relay.Tag(k, e); no != api.OK || got != want {
		t.Error(got, no)
	}
	for _, bad := range []api.Envelope{envelope(8, 0, 1), envelope(0, -1, 1), envelope(0, 1, -1), {Body: make([]byte, 601)}} {
		if got, no := relay.Tag(k, bad); no != api.ErrArg || got != (api.Key{}) {
			t.Error(got, no)
		}
	}
	// Both ends may be the same here.
	if _, no := relay.Tag(k, envelope(1, 1, 1)); no != api.OK {
		t.Error(no)
	}
}

// P20.4
func TestSend(t *testing.T) {
	r := made(t, 0, 1, 2)
	stamps, _ := stamp.New(root, 10)
	for n := range 5 {
		e := envelope(0, 1, n)
		got, no := r.Send(e, tagged(t, e), 7)
		want, _ := stamps.Stamp(e, 7)
		if no != api.OK || got != want {
			t.Error(n, got, no)
		}
		l := mails(t, r, 1)
		if len(l) != n+1 {
			t.Fatal(len(l))
		}
		m := l[n]
		if m.ID != n+1 || m.S != want || m.E.From != 0 || m.E.To != 1 || m.E.Commit != e.Commit || m.E.Head != e.Head || !bytes.Equal(m.E.Body, e.Body) {
			t.Error(n, m)
		}
	}
	if len(mails(t, r, 0)) != 0 || len(mails(t, r, 2)) != 0 {
		t.Error("an envelope waits for another account")
	}
}

// P20.4: each error with all of those that come after it.
func TestSendErrors(t *testing.T) {
	r := made(t, 0, 1, 2)
	good := envelope(0, 1, 1)
	fails := func(what string, e api.Envelope, tag api.Key, now int, want api.Errno) {
		t.Helper()
		s, no := r.Send(e, tag, now)
		if no != want || s != (api.Stamp{}) {
			t.Errorf("%s: %v %v, not %v", what, s, no, want)
		}
	}
	for _, bad := range []api.Envelope{envelope(8, 1, 1), envelope(0, 8, 1), envelope(-1, 1, 1), envelope(0, 1, -1), {To: 1, Body: make([]byte, 601)}, envelope(9, 9, 1)} {
		fails("not valid", bad, api.Key{}, -1, api.ErrArg)
		fails("not valid", bad, api.Key{}, 0, api.ErrArg)
	}
	for _, a := range []int{0, 5} {
		same := envelope(a, a, 1)
		fails("both ends", same, tagged(t, same), 0, api.ErrArg)
	}
	for _, now := range []int{-1, 1000001, math.MinInt, math.MaxInt} {
		fails("time", good, tagged(t, good), now, api.ErrArg)
		fails("time, and no account", envelope(4, 5, 1), api.Key{}, now, api.ErrArg)
	}
	for _, e := range []api.Envelope{envelope(0, 5, 1), envelope(5, 0, 1), envelope(5, 6, 1)} {
		fails("no account", e, tagged(t, e), 0, api.ErrNone)
		fails("no account, and no tag", e, api.Key{}, 0, api.ErrNone)
	}
	tag := tagged(t, good)
	for bit := range 256 {
		other := tag
		other[bit/8] ^= 1 << (bit % 8)
		fails("tag", good, other, 0, api.ErrMac)
	}
	changed := good
	changed.Body = []byte("body 2")
	fails("body", changed, tag, 0, api.ErrMac)
	// The recipient's link, and another one's, do not count.
	for _, a := range []int{1, 2} {
		other, _ := relay.Tag(link(a), good)
		fails("link", good, other, 0, api.ErrMac)
	}
	if e := r.Suspend(0, true); e != api.OK {
		t.Error(e)
	}
	fails("tag of a suspended one", good, api.Key{}, 0, api.ErrMac)
	fails("suspended", good, tag, 0, api.ErrGone)
	if len(mails(t, r, 1)) != 0 {
		t.Error("an envelope waits that was refused")
	}
	r.Suspend(0, false)
	// None of all these took a token.
	for n := range 5 {
		send(t, r, envelope(0, 1, n), 0, api.OK)
	}
	send(t, r, envelope(0, 1, 5), 0, api.ErrRate)
}

// P20.4
func TestSendFull(t *testing.T) {
	r := made(t, 0, 1, 2)
	for n := range 4 {
		send(t, r, envelope(0, 2, n), 0, api.OK)
		send(t, r, envelope(1, 2, n), 0, api.OK)
	}
	// Full comes ahead of the rate, and takes no token.
	for range 3 {
		send(t, r, envelope(0, 2, 5), 0, api.ErrFull)
	}
	send(t, r, envelope(0, 1, 5), 0, api.OK)
	send(t, r, envelope(0, 2, 6), 0, api.ErrFull)
	send(t, r, envelope(0, 1, 6), 0, api.ErrRate)
	// A suspended one is told that first.
	r.Suspend(1, true)
	send(t, r, envelope(1, 2, 7), 0, api.ErrGone)
	r.Suspend(1, false)
	if e := r.Ack(2, 3); e != api.OK {
		t.Error(e)
	}
	send(t, r, envelope(1, 2, 8), 0, api.OK)
	send(t, r, envelope(1, 2, 9), 0, api.ErrFull)
	if l := mails(t, r, 2); len(l) != 8 || l[7].ID != 9 || l[2].ID != 4 {
		t.Error(l)
	}
}

// P20.4
func TestSendRate(t *testing.T) {
	r := made(t, 0, 1, 2)
	for n := range 5 {
		send(t, r, envelope(0, 1, n), 3, api.OK)
	}
	send(t, r, envelope(0, 1, 5), 3, api.ErrRate)
	// The bucket of another account is another one.
	send(t, r, envelope(1, 0, 0), 0, api.OK)
	// The time of the bucket is that of the last try.
	send(t, r, envelope(0, 1, 5), 9, api.ErrRate)
	send(t, r, envelope(0, 1, 5), 8, api.ErrOld)
	send(t, r, envelope(0, 1, 5), 10, api.OK)
	send(t, r, envelope(0, 1, 6), 19, api.ErrRate)
	send(t, r, envelope(0, 1, 6), 20, api.OK)
	if len(mails(t, r, 1)) != 7 {
		t.Error(len(mails(t, r, 1)))
	}
	send(t, r, envelope(0, 2, 7), 1000000, api.OK)
	send(t, r, envelope(0, 2, 7), 999999, api.ErrOld)
}

// P20.5
func TestMailsAndAck(t *testing.T) {
	r := made(t, 0, 1)
	for n := range 3 {
		send(t, r, envelope(0, 1, n), 0, api.OK)
	}
	for _, c := range []struct {
		account, id int
		want        api.Errno
	}{{1, 0, api.ErrNone}, {1, 4, api.ErrNone}, {0, 1, api.ErrNone}, {5, 1, api.ErrNone}, {-1, 1, api.ErrNone}, {8, 1, api.ErrNone}, {1, 2, api.OK}, {1, 2, api.ErrOld}, {1, 1, api.OK}, {1, 3, api.OK}, {1, 3, api.ErrOld}} {
		if e := r.Ack(c.account, c.id); e != c.want {
			t.Error(c, e)
		}
	}
	if len(mails(t, r, 1)) != 0 {
		t.Error("envelopes are left")
	}
	for _, a := range []int{5, -1, 8, math.MaxInt} {
		if l, e := r.Mails(a); e != api.ErrNone || len(l) != 0 {
			t.Error(a, l, e)
		}
	}
}

// P20.5
func TestSuspend(t *testing.T) {
	r := made(t, 0, 1)
	for _, a := range []int{5, -1, 8, math.MinInt} {
		for _, is := range []bool{true, false} {
			if e := r.Suspend(a, is); e != api.ErrNone {
				t.Error(a, e)
			}
		}
	}
	send(t, r, envelope(0, 1, 0), 0, api.OK)
	for range 2 {
		if e := r.Suspend(0, true); e != api.OK {
			t.Error(e)
		}
		send(t, r, envelope(0, 1, 1), 0, api.ErrGone)
	}
	// One that is suspended still receives.
	send(t, r, envelope(1, 0, 2), 0, api.OK)
	if len(mails(t, r, 0)) != 1 {
		t.Error("nothing received")
	}
	if e := r.Suspend(0, false); e != api.OK {
		t.Error(e)
	}
	send(t, r, envelope(0, 1, 3), 0, api.OK)
}

// P20.6
func TestWaiting(t *testing.T) {
	r := made(t, 0, 1, 2, 3, 4, 5, 6, 7)
	stamps, _ := stamp.New(root, 10)
	for n := range 40 {
		send(t, r, envelope(n%8, (n+1+n/8)%8, n), n, api.OK)
	}
	seen := map[int]bool{}
	for a := range 8 {
		for _, m := range mails(t, r, a) {
			n := m.E.Head.N
			if seen[n] || m.E.To != a || m.E.From != n%8 || m.S.Time != n || m.S.Commit != m.E.Commit || m.S.From != m.E.From || m.S.To != a {
				t.Error(a, m)
			}
			seen[n] = true
			if e := stamps.Check(m.S, n); e != api.OK {
				t.Error(a, e)
			}
		}
	}
	if len(seen) != 40 {
		t.Error(len(seen))
	}
}

// P20.6: arguments and results are not shared with the relay.
func TestNothingShared(t *testing.T) {
	r := made(t, 0, 1)
	e := envelope(0, 1, 1)
	if _, no := r.Send(e, tagged(t, e), 0); no != api.OK {
		t.Fatal(no)
	}
	e.Body[0] = 'x'
	l := mails(t, r, 1)
	if string(l[0].E.Body) != "body 1" {
		t.Error("the argument is shared")
	}
	l[0].E.Body[0] = 'y'
	if string(mails(t, r, 1)[0].E.Body) != "body 1" {
		t.Error("the result is shared")
	}
}
