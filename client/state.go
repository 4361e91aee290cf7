package client

import (
	"slices"
	"strings"

	"samphire/api"
	"samphire/clock"
	"samphire/code"
	"samphire/group"
	"samphire/keys"
	"samphire/sha"
	"samphire/snap"
	"samphire/tree"
	"samphire/wire"
)

const (
	mostChains = 32
	// Behind so many operations that may yet be turned, those are done for good that can be.
	mostTurned = 64
	// What a client leaves on its device begins with it.
	mark = "client"
)

// How far a record that waits has come.
const (
	// It was not sealed yet.
	fresh = iota
	// It is to be sent, as it was sealed.
	sealed
	// It was sent: whether it was taken, is to be seen in what comes.
	sent
)

// waiting is a record that waits.
type waiting struct {
	far int
	// As it was sealed. What is fresh has the number, and the end of a chain, that any record may have.
	record api.Record
	// Since it is sealed: in which epoch, and as what.
	epoch int
	blob  string
}

// past is what came of all records that were accepted: just what a snapshot tells.
type past struct {
	many int
	// The last chains, the newest last.
	chains []string
	// Who is a member: one of no epoch, as long as nothing is known of it.
	group api.Group
	// The keys of the epoch ahead of the group's, and of the group's, if they are known.
	ahead, key string
	// The greatest times of operations that counted, of each member, by who less 1.
	times [api.MaxClients]int
	// It is never changed: where operations come, one like it takes its place.
	tree *tree.Tree
}

// state is all that a client has.
type state struct {
	past
	who      int
	tampered bool
	// Its clock's.
	time  int
	waits []waiting
}

// first is the chain of no records.
func first() string { return sha.Sum("samphire") }

// behind is the chain behind a record.
func behind(chain string, i api.Item) string {
	o := code.NewOut()
	o.Num(i.Seq)
	o.Num(i.Epoch)
	numbers, _ := o.Done()
	return sha.Sum(chain + numbers + i.Blob)
}

func noughts(n int) string { return strings.Repeat("\x00", n) }

// atFirst is what a client has that has heard nothing yet.
func atFirst(who int, own []string) state {
	s := state{who: who}
	s.chains = []string{first()}
	s.tree = tree.New()
	if who == admin {
		s.group = group.New()
		s.key, _ = keys.Fresh(own[admin-1], s.group.Epoch)
	}
	return s
}

// copied is the same, so that what is done on it is not done on this one.
func (s state) copied() state {
	s.chains = slices.Clone(s.chains)
	s.group.Members = slices.Clone(s.group.Members)
	s.waits = slices.Clone(s.waits)
	return s
}

// joined tells whether it is a member, as far as it knows: else it has no keys, and nothing waits.
func (s *state) joined() bool { return group.In(s.group, s.who) }

// full tells whether no more may wait.
func (s *state) full() bool { return len(s.waits) >= api.MaxOutbox }

// wait lets a record wait, behind all others.
func (s *state) wait(r api.Record) {
	r.From, r.Count, r.Head = s.who, 1, first()
	s.waits = append(s.waits, waiting{far: fresh, record: r})
}

// clock is one that is as late as its own one was left.
func (s *state) clock() *clock.Clock {
	c, _ := clock.New(s.who)
	// Of a time of 0 there is no stamp that could be seen: but a new clock has it.
	c.See(api.Stamp{Time: s.time, Who: s.who})
	return c
}

// tick is the next stamp of its clock.
func (s *state) tick() (api.Stamp, api.Errno) {
	c := s.clock()
	at, e := c.Next()
	s.time = c.Now()
	return at, e
}

// see lets its clock see a stamp.
func (s *state) see(at api.Stamp) {
	c := s.clock()
	c.See(at)
	s.time = c.Now()
}

// last is the chain of all that was accepted.
func (p *past) last() string { return p.chains[len(p.chains)-1] }

// chainAt is the chain of so many records; false, if it is not one of those that are known yet.
func (p *past) chainAt(many int) (string, bool) {
	at := many - p.many + len(p.chains) - 1
	if at < 0 || at >= len(p.chains) {
		return "", false
	}
	return p.chains[at], true
}

// goOn lets the chain go on with a record.
func (p *past) goOn(i api.Item) {
	p.many = i.Seq
	p.chains = append(p.chains, behind(p.last(), i))
	p.chains = p.chains[max(len(p.chains)-mostChains, 0):]
}

// countOf is how many records of a member there were.
func (p *past) countOf(who int) int {
	for _, m := range p.group.Members {
		if m.Who == who {
			return m.Count
		}
	}
	return 0
}

// keyOf is the key of an epoch; none, if it is not known.
func (p *past) keyOf(epoch int) string {
	switch epoch {
	case p.group.Epoch:
		return p.key
	case p.group.Epoch - 1:
		return p.ahead
	}
	return ""
}

// asSnap is a tree as a snapshot has it.
func asSnap(t *tree.Tree) api.Snap {
	return api.Snap{Nodes: t.Fixed(), Ops: t.Ops(), Base: t.Base()}
}

// put is what a snapshot tells, as bytes; ErrFull, if there are too many.
func (p *past) put() (string, api.Errno) {
	nodes, e := snap.Put(asSnap(p.tree))
	if e != api.OK {
		return "", api.ErrFull
	}
	// A group of which nothing is known has no bytes.
	members, _ := group.Put(p.group)
	out := code.NewOut()
	out.Num(p.many)
	out.Byte(len(p.chains))
	for _, chain := range p.chains {
		out.Text(chain)
	}
	out.Text(members)
	out.Text(p.ahead)
	out.Text(p.key)
	for _, time := range p.times {
		out.Num(time)
	}
	out.Text(nodes)
	return done(out)
}

// done are the bytes that were written; ErrFull, if they were too many.
func done(out *code.Out) (string, api.Errno) {
	s, e := out.Done()
	if e != api.OK {
		return "", api.ErrFull
	}
	return s, api.OK
}

// takePast is what bytes tell that put gave; false, if they are no such ones.
func takePast(s string) (past, bool) {
	var p past
	in := code.NewIn(s)
	p.many = in.Num()
	for range in.Byte() {
		p.chains = append(p.chains, in.Text(api.SumSize))
	}
	members := in.Text(api.MaxText)
	p.ahead = in.Text(api.KeySize)
	p.key = in.Text(api.KeySize)
	for i := range p.times {
		p.times[i] = in.Num()
	}
	nodes, bad := snap.Take(in.Text(api.MaxText))
	if in.Done() != api.OK || bad != api.OK || !areChains(p.chains, p.many) {
		return past{}, false
	}
	// What is no group is none of which something is known: that has no bytes.
	p.group, _ = group.Take(members)
	p.tree, _ = tree.Of(nodes)
	if members == "" != (p.group.Epoch == 0) || !areKeys(p.ahead, p.key, p.group.Epoch) {
		return past{}, false
	}
	return p, true
}

// takeContent is what the bytes in a snapshot tell; false, if they are no content: a client may have no key, but a
// snapshot, which a member has sealed, always tells that of its epoch.
func takeContent(s string) (past, bool) {
	p, ok := takePast(s)
	if !ok || p.key == "" {
		return past{}, false
	}
	return p, true
}

// areChains tells whether chains are the last ones of so many records.
func areChains(l []string, many int) bool {
	if len(l) == 0 || len(l) > min(mostChains, many+1) {
		return false
	}
	return !slices.ContainsFunc(l, func(s string) bool { return len(s) != api.SumSize })
}

// areKeys tells whether keys are those of an epoch, and of the one ahead, or none.
func areKeys(ahead, key string, epoch int) bool {
	if ahead != "" && (!isKey(ahead) || key == "" || epoch < 2) {
		return false
	}
	return key == "" || isKey(key)
}

// put is what it has as bytes; ErrFull, if there are too many.
func (s *state) put() (string, api.Errno) {
	known, e := s.past.put()
	if e != api.OK {
		return "", e
	}
	out := code.NewOut()
	out.Text(mark)
	out.Byte(s.who)
	out.Byte(asByte(s.tampered))
	out.Num(s.time)
	out.Text(known)
	out.Byte(len(s.waits))
	for _, w := range s.waits {
		// None is refused: it may be since it waits.
		r, _ := wire.PutRecord(w.record)
		out.Byte(w.far)
		out.Text(r)
		out.Num(w.epoch)
		out.Text(w.blob)
	}
	return done(out)
}

// asByte is 1 for true, else 0.
func asByte(b bool) int {
	if b {
		return 1
	}
	return 0
}

// takeState is what a client left as these bytes; false, if it is none of that number.
func takeState(text string, who int) (state, bool) {
	in := code.NewIn(text)
	if in.Text(api.MaxText) != mark {
		return state{}, false
	}
	s := state{who: in.Byte(), tampered: in.Byte() == 1}
	s.time = in.Num()
	p, ok := takePast(in.Text(api.MaxText))
	s.past = p
	for range in.Byte() {
		s.waits = append(s.waits, takeWaiting(in))
	}
	if !ok || s.who != who || !s.fine() {
		return state{}, false
	}
	// What was missing, too much, or may not be, need not be told apart: it would be put as something else.
	if again, e := s.put(); e != api.OK || again != text {
		return state{}, false
	}
	return s, true
}

// takeWaiting reads a record that waits.
func takeWaiting(in *code.In) waiting {
	var w waiting
	w.far = in.Byte()
	w.record, _ = wire.TakeRecord(in.Text(api.MaxText))
	w.epoch = in.Num()
	w.blob = in.Text(api.MaxText)
	return w
}

// fine tells whether a client can have all of this together.
func (s *state) fine() bool {
	if s.joined() != (s.key != "") || s.who == admin && !s.joined() {
		return false
	}
	if len(s.waits) > api.MaxOutbox || len(s.waits) > 0 && !s.joined() {
		return false
	}
	for i, w := range s.waits {
		if !w.fine(s.who) || i > 0 && w.far != fresh {
			return false
		}
	}
	return true
}

// fine tells whether a record can wait so.
func (w waiting) fine(who int) bool {
	its := w.record.From == who && (w.record.Kind == api.RecOp || who == admin)
	return its && w.far <= sent && (w.far == fresh) == (w.blob == "")
}
