package world

import (
	"palfrey/agree"
	"palfrey/api"
	"palfrey/disk"
	"palfrey/frame"
	"palfrey/journal"
	"palfrey/moder"
	"palfrey/ratchet"
	"palfrey/relay"
	"palfrey/stamp"
	"palfrey/strikes"
)

// setUpRelay gives the moderator stamps of the same root, so that it can check those of the relay.
func (w *World) setUpRelay() (e api.Errno) {
	root := w.source.Key()
	if w.relay, e = relay.New(root, ticks); e != api.OK {
		return e
	}
	w.stamps, e = stamp.New(root, ticks)
	return e
}

func (w *World) register() api.Errno {
	for account := range accounts {
		m := &w.members[account]
		m.own.Identity = w.source.Pair()
		m.own.Signed = w.source.Pair()
		m.own.Once = w.source.Pair()
		m.link = w.source.Key()
		once := []api.Key{m.own.Once.Public}
		// The relay hands the one-time key out, and says with which bundle.
		if e := w.relay.Register(account, m.link, agree.Bundle(m.own), once); e != api.OK {
			return e
		}
	}
	return api.OK
}

func (w *World) setUpDisk() (e api.Errno) {
	if w.disk, e = disk.New(api.MostSectors); e != api.OK {
		return e
	}
	return w.open()
}

// open reads what the disk holds; nothing that was in memory is left of the ledger and of the moderator.
func (w *World) open() api.Errno {
	j, e := journal.Open(w.disk)
	if e != api.OK {
		return e
	}
	l, e := strikes.Open(j)
	if e != api.OK {
		return e
	}
	m, e := moder.New(w.stamps, l)
	if e != api.OK {
		return e
	}
	w.ledger, w.moder = l, m
	return api.OK
}

// connect creates both sides of a line at once, as if b had heard of a's keys already.
func (w *World) connect(a, b int) api.Errno {
	bundle, e := w.relay.Fetch(b)
	if e != api.OK {
		return e
	}
	fresh := w.source.Pair()
	near, e := w.beginning(a, b, fresh, bundle)
	if e != api.OK {
		return e
	}
	far, e := w.answering(a, b, fresh.Public, bundle.HasOnce)
	if e != api.OK {
		return e
	}
	w.members[a].lines[b] = near
	w.members[b].lines[a] = far
	return api.OK
}

func (w *World) beginning(a, b int, fresh api.Pair, bundle api.Bundle) (*frame.Line, api.Errno) {
	shared, e := agree.Begin(w.members[a].own.Identity, fresh, bundle)
	if e != api.OK {
		return nil, e
	}
	s, e := ratchet.Begin(shared, bundle.Signed, w.source)
	if e != api.OK {
		return nil, e
	}
	return frame.New(s, a, b)
}

func (w *World) answering(a, b int, fresh api.Key, hasOnce bool) (*frame.Line, api.Errno) {
	own := w.members[b].own
	own.HasOnce = hasOnce
	shared, e := agree.Answer(own, w.members[a].own.Identity.Public, fresh)
	if e != api.OK {
		return nil, e
	}
	return frame.New(ratchet.Answer(shared, own.Signed, w.source), b, a)
}
