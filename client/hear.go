package client

import (
	"slices"

	"samphire/api"
	"samphire/clock"
	"samphire/group"
	"samphire/tree"
	"samphire/wire"
)

// Hear hears a frame.
func (c *Client) Hear(s string) api.Errno {
	if e := c.sound(); e != api.OK {
		return e
	}
	f, e := wire.Take(s)
	if e != api.OK {
		return e
	}
	if f.Kind == api.FrameGiven && !c.has.joined() {
		return api.ErrWait
	}
	if f.Group != home {
		return api.ErrWire
	}
	switch f.Kind {
	case api.FrameError:
		return f.Err
	case api.FrameTaken, api.FrameKept:
		return api.OK
	case api.FrameGiven:
		return c.change(func(s *state) api.Errno { return c.accept(s, f.Items) })
	case api.FrameSnap:
		return c.change(func(s *state) api.Errno { return c.start(s, f) })
	}
	return api.ErrWire
}

// accept lets items be accepted, one behind the other.
func (c *Client) accept(s *state, l []api.Item) api.Errno {
	if len(l) == 0 {
		s.missed()
		return api.OK
	}
	for k, i := range l {
		if i.Seq != s.many+1+k {
			return api.ErrWire
		}
	}
	s.tree, _ = tree.Of(asSnap(s.tree))
	for _, i := range l {
		if e := c.take(s, i); e != api.OK {
			return e
		}
		if !s.joined() {
			break
		}
	}
	s.settle()
	return api.OK
}

// missed lets what was sent be sent again: it is not among what there is.
func (s *state) missed() {
	if len(s.waits) > 0 && s.waits[0].far == sent {
		s.waits[0].far = sealed
	}
}

// take lets an item be accepted; ErrTampered, if it can't have come so.
func (c *Client) take(s *state, i api.Item) api.Errno {
	s.goOn(i)
	if i.Epoch < s.group.Epoch-1 {
		return api.OK
	}
	r, ok := c.opened(s, i)
	if !ok || !s.follows(r) {
		return api.ErrTampered
	}
	g, counts, e := group.Judge(s.group, i.Epoch, r)
	if e != api.OK {
		return api.ErrTampered
	}
	s.group = g
	if r.From == s.who && len(s.waits) > 0 {
		s.waits = s.waits[1:]
	}
	if !counts {
		return api.OK
	}
	return c.do(s, r)
}

// follows tells whether the last record can have been sealed by one who had come as far as it says.
func (s *state) follows(r api.Record) bool {
	chain, known := s.chainAt(r.Seq)
	return r.Seq < s.many && (!known || chain == r.Head)
}

// do lets a record that counts do what it does, in the group that it has made.
func (c *Client) do(s *state, r api.Record) api.Errno {
	if r.Kind == api.RecOp {
		// It is refused, if it is older than what is for good: then it comes too late to be done.
		s.tree.Apply(r.Op)
		s.see(r.Op.At)
		s.times[r.From-1] = max(s.times[r.From-1], r.Op.At.Time)
		return api.OK
	}
	if !s.joined() {
		s.ahead, s.key, s.waits = "", "", nil
		return api.OK
	}
	key := c.unwrapped(s, r.Wraps)
	if key == "" {
		return api.ErrTampered
	}
	s.ahead, s.key = s.key, key
	return api.OK
}

// settle lets what can not be turned any more be so for good, if there is much that may yet be.
func (s *state) settle() {
	if len(s.tree.Ops()) <= mostTurned {
		return
	}
	var l []api.Stamp
	var in []int
	for _, m := range s.group.Members {
		if m.In {
			l = append(l, api.Stamp{Time: s.times[m.Who-1], Who: m.Who})
			in = append(in, m.Who)
		}
	}
	s.tree.Compact(api.Stamp{Time: clock.Stable(l, in), Who: api.MaxClients})
}

// start lets it go on from a snapshot.
func (c *Client) start(s *state, f api.Frame) api.Errno {
	if f.Seq <= s.many {
		return api.OK
	}
	p, ok := c.told(s, f)
	if !ok || p.many != f.Seq || p.group.Epoch != f.Epoch || !group.In(p.group, s.who) {
		return api.ErrSeal
	}
	if s.many > 0 && (p.countOf(s.who) < s.countOf(s.who) || !s.agrees(p)) {
		return api.ErrTampered
	}
	s.past = p
	for i, time := range p.times {
		s.see(api.Stamp{Time: time, Who: i + 1})
	}
	// What was sealed with another number was accepted already.
	s.waits = slices.DeleteFunc(s.waits, func(w waiting) bool {
		return w.far != fresh && w.record.Count != s.countOf(s.who)+1
	})
	return api.OK
}

// agrees tells whether all chains that both know are the same.
func (p *past) agrees(with past) bool {
	for back := range with.chains {
		many := with.many - back
		mine, known := p.chainAt(many)
		other, _ := with.chainAt(many)
		if known && mine != other {
			return false
		}
	}
	return true
}
