package sim

import (
	"slices"

	"samphire/api"
)

const (
	mostRounds = 60
	atOnce     = 8
)

// Calm lets all members send what waits, and fetch all: whether all have it.
func (x *Sim) Calm() bool {
	if !x.given() {
		return false
	}
	l := x.live()
	for range mostRounds {
		for _, p := range l {
			x.settle(p)
		}
		if !slices.ContainsFunc(x.members(l), waits) {
			break
		}
	}
	for _, p := range l {
		x.catchUp(p)
	}
	return !slices.ContainsFunc(x.members(l), x.lacks)
}

// live are those that take part.
func (x *Sim) live() []*party {
	return those(x.parties, func(p *party) bool { return p.goesOn() && !p.client.Tampered() })
}

// goesOn tells whether a client has joined, and runs.
func (p *party) goesOn() bool { return p.client.Joined() && !p.device.Off() }

// members are those of some that go on yet, and are In, in the group as the client 1 knows it. One that was removed
// meanwhile, and added again, is to join anew: it has no more part in this than one that was added and did not join yet.
func (x *Sim) members(l []*party) []*party {
	g := x.client(admin).Group()
	return those(l, func(p *party) bool {
		return p.goesOn() && slices.ContainsFunc(g.Members, func(m api.Member) bool { return m.Who == p.who && m.In })
	})
}

// those are the ones of some of which something holds.
func those(l []*party, holds func(*party) bool) []*party {
	return slices.DeleteFunc(slices.Clone(l), func(p *party) bool { return !holds(p) })
}

func waits(p *party) bool { return p.client.Waits() > 0 }

// lacks tells whether a client does not have all that there is.
func (x *Sim) lacks(p *party) bool {
	many, _ := p.client.Chain()
	return waits(p) || p.client.Tampered() || many != x.relay.Last()
}

// settle lets a client have all, and send what waits first.
func (x *Sim) settle(p *party) {
	x.catchUp(p)
	if waits(p) {
		x.plain(p, x.sending(p))
		x.fetchAll(p)
	}
}

// catchUp lets a client fetch all, from a snapshot on, if it must.
func (x *Sim) catchUp(p *party) {
	if x.fetchAll(p) == api.ErrGone {
		x.plain(p, p.client.Join)
		x.fetchAll(p)
	}
}

// fetchAll lets a client fetch till that brings nothing: what it says then.
func (x *Sim) fetchAll(p *party) api.Errno {
	for {
		was := p.noted
		e := x.plain(p, func() (string, api.Errno) { return p.client.Fetch(atOnce) })
		if p.noted == was {
			return e
		}
	}
}

// plain lets a client, if its power is on, send a frame, and hear just what is answered.
func (x *Sim) plain(p *party, frame func() (string, api.Errno)) api.Errno {
	if p.device.Off() {
		return api.ErrOff
	}
	s, e := frame()
	if e != api.OK {
		return e
	}
	return x.hear(p, x.ask(s))
}
