package agree_test

import (
	"testing"

	"palfrey/agree"
	"palfrey/api"
	"palfrey/kdf"
	"palfrey/keys"
	"palfrey/octets"
)

func owner(seed string) agree.Own {
	s := keys.New([]byte(seed))
	return agree.Own{Identity: s.Pair(), Signed: s.Pair(), Once: s.Pair(), HasOnce: true}
}

func without(o agree.Own) agree.Own {
	o.HasOnce = false
	return o
}

func common(t *testing.T, own api.Pair, public api.Key) []byte {
	t.Helper()
	k, e := keys.Common(own, public)
	if e != api.OK {
		t.Fatal(e)
	}
	return k[:]
}

// P9.1
func TestBundle(t *testing.T) {
	o := owner("o")
	want := api.Bundle{Identity: o.Identity.Public, Signed: o.Signed.Public, Once: o.Once.Public, HasOnce: true}
	if got := agree.Bundle(o); got != want {
		t.Errorf("%v", got)
	}
	want.Once, want.HasOnce = api.Key{}, false
	if got := agree.Bundle(without(o)); got != want {
		t.Errorf("%v", got)
	}
	if agree.Bundle(agree.Own{}) != (api.Bundle{}) {
		t.Error("the bundle of none")
	}
}

// P9.2
func TestBegin(t *testing.T) {
	s := keys.New([]byte("a"))
	identity, fresh := s.Pair(), s.Pair()
	b := agree.Bundle(owner("o"))
	list := [][]byte{common(t, identity, b.Signed), common(t, fresh, b.Identity), common(t, fresh, b.Signed), common(t, fresh, b.Once)}
	got, e := agree.Begin(identity, fresh, b)
	if e != api.OK || got != kdf.Draw(api.Key{}, octets.Join(list...)) {
		t.Error(got, e)
	}
	// Without HasOnce the key for once does not count, even if there is one.
	b.HasOnce = false
	got, e = agree.Begin(identity, fresh, b)
	if e != api.OK || got != kdf.Draw(api.Key{}, octets.Join(list[:3]...)) {
		t.Error(got, e)
	}
	b.Once = api.Key{}
	if other, e := agree.Begin(identity, fresh, b); e != api.OK || other != got {
		t.Error(other, e)
	}
}

// P9.2
func TestBeginWithoutKey(t *testing.T) {
	s := keys.New([]byte("a"))
	identity, fresh := s.Pair(), s.Pair()
	full := agree.Bundle(owner("o"))
	for i := range 3 {
		b := full
		switch i {
		case 0:
			b.Identity = api.Key{}
		case 1:
			b.Signed = api.Key{1}
		case 2:
			b.Once = api.Key{}
		}
		if got, e := agree.Begin(identity, fresh, b); e != api.ErrKey || got != (api.Key{}) {
			t.Error(i, got, e)
		}
	}
	if got, e := agree.Begin(identity, fresh, api.Bundle{}); e != api.ErrKey || got != (api.Key{}) {
		t.Error(got, e)
	}
}

// P9.3
func TestAnswer(t *testing.T) {
	s := keys.New([]byte("a"))
	identity, fresh := s.Pair(), s.Pair()
	o := owner("o")
	list := [][]byte{common(t, o.Signed, identity.Public), common(t, o.Identity, fresh.Public), common(t, o.Signed, fresh.Public), common(t, o.Once, fresh.Public)}
	got, e := agree.Answer(o, identity.Public, fresh.Public)
	if e != api.OK || got != kdf.Draw(api.Key{}, octets.Join(list...)) {
		t.Error(got, e)
	}
	got, e = agree.Answer(without(o), identity.Public, fresh.Public)
	if e != api.OK || got != kdf.Draw(api.Key{}, octets.Join(list[:3]...)) {
		t.Error(got, e)
	}
}

// P9.3
func TestAnswerWithoutKey(t *testing.T) {
	s := keys.New([]byte("a"))
	identity, fresh := s.Pair(), s.Pair()
	for _, o := range []agree.Own{owner("o"), without(owner("o"))} {
		if got, e := agree.Answer(o, api.Key{}, fresh.Public); e != api.ErrKey || got != (api.Key{}) {
			t.Error(got, e)
		}
		if got, e := agree.Answer(o, identity.Public, api.Key{1}); e != api.ErrKey || got != (api.Key{}) {
			t.Error(got, e)
		}
	}
}

// P9.4
func TestSameKey(t *testing.T) {
	seen := map[api.Key]bool{}
	for _, seed := range []string{"x", "y", "z"} {
		s := keys.New([]byte("a" + seed))
		identity, fresh := s.Pair(), s.Pair()
		for _, o := range []agree.Own{owner(seed), without(owner(seed))} {
			one, e := agree.Begin(identity, fresh, agree.Bundle(o))
			two, f := agree.Answer(o, identity.Public, fresh.Public)
			if e != api.OK || f != api.OK || one != two {
				t.Error(one, two, e, f)
			}
			if seen[one] {
				t.Error("the same key twice")
			}
			seen[one] = true
			// Another party, or another fresh pair, has another key.
			if k, _ := agree.Begin(fresh, identity, agree.Bundle(o)); k == one {
				t.Error("the roles of the pairs do not count")
			}
			if k, _ := agree.Answer(owner("w"), identity.Public, fresh.Public); k == one {
				t.Error("another owner has the same key")
			}
		}
	}
}
