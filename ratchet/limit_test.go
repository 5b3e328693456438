package ratchet

import (
	"testing"

	"palfrey/api"
	"palfrey/keys"
)

// P13.2: a header that head does not encode is not sent, because no one could receive it.
func TestLastNumber(t *testing.T) {
	signed := keys.Pair([]byte("signed"))
	a, e := Begin(api.Key{1}, signed.Public, keys.New([]byte("a")))
	if e != api.OK {
		t.Fatal(e)
	}
	b := Answer(api.Key{1}, signed, keys.New([]byte("b")))
	h, body, e := a.Send(nil, []byte("first"))
	if e != api.OK {
		t.Fatal(e)
	}
	if _, e := b.Recv(nil, h, body); e != api.OK {
		t.Fatal(e)
	}
	// As if nearly a million messages had come and gone.
	a.sending.many, b.receiving.many = api.MostTime, api.MostTime
	h, body, e = a.Send(nil, []byte("last"))
	if e != api.OK || h.N != api.MostTime {
		t.Fatal(h, e)
	}
	if text, e := b.Recv(nil, h, body); e != api.OK || string(text) != "last" {
		t.Error(text, e)
	}
	before := a.state
	if h, body, e := a.Send(nil, nil); e != api.ErrArg || h != (api.Head{}) || len(body) != 0 {
		t.Error(h, body, e)
	}
	if a.state != before {
		t.Error("an error changed the session")
	}
}
