package sim

import "samphire/api"

// Step does a step of a script.
func (x *Sim) Step(s api.Step) api.Errno {
	if !x.given() {
		return api.ErrArg
	}
	if x.steps >= api.MaxSteps {
		return api.ErrFull
	}
	x.steps++
	does, ok := x.ways()[s.Kind]
	p := x.doer(s)
	if !ok || p == nil {
		return api.ErrArg
	}
	if p.device.Off() && needsPower(s.Kind) {
		return api.ErrOff
	}
	return does(p, s)
}

// ways are what it does at a step of each kind.
func (x *Sim) ways() map[int]func(*party, api.Step) api.Errno {
	return map[int]func(*party, api.Step) api.Errno{
		api.StepEdit:   x.edit,
		api.StepSend:   x.send,
		api.StepFetch:  x.fetch,
		api.StepKeep:   x.keep,
		api.StepJoin:   x.join,
		api.StepAdd:    x.add,
		api.StepRemove: x.remove,
		api.StepRotate: x.rotate,
		api.StepFuse:   x.fuse,
		api.StepStart:  x.start,
		api.StepTwist:  x.twist,
	}
}

// doer is who does a step; nil, if there is none.
func (x *Sim) doer(s api.Step) *party {
	switch s.Kind {
	case api.StepAdd, api.StepRemove:
		if !isWho(s.At) {
			return nil
		}
		return x.party(admin)
	case api.StepRotate:
		return x.party(admin)
	}
	return x.party(s.At)
}

// needsPower tells whether a step of a kind is done by a client that runs.
func needsPower(kind int) bool { return kind != api.StepStart && kind != api.StepTwist }

func (x *Sim) edit(p *party, s api.Step) api.Errno {
	o, e := p.client.Edit(operation(s, p.client.Nodes()))
	if e != api.OK {
		return e
	}
	x.issued = append(x.issued, o)
	return api.OK
}

// operation is the one of a step, upon nodes.
func operation(s api.Step, l []api.Node) api.Op {
	o := api.Op{Kind: s.Op, Node: place(l, s.Node)}
	if o.Node == (api.Stamp{}) {
		// The root is no node: what is done with it is done with one that there may be.
		o.Node = api.Stamp{Time: 1, Who: 1}
	}
	switch s.Op {
	case api.OpCreate:
		// It gets its number as it is let wait.
		o.Node, o.Parent, o.Name = api.Stamp{}, place(l, s.Into), s.Name
	case api.OpMove:
		o.Parent = place(l, s.Into)
	case api.OpRename:
		o.Name = s.Name
	case api.OpSet:
		o.Value = s.Value
	}
	return o
}

// place is the number of the node at a place: the root has the place 0.
func place(l []api.Node, n int) api.Stamp {
	at := modulo(n, len(l)+1)
	if at == 0 {
		return api.Stamp{}
	}
	return l[at-1].Id
}

// modulo is never below 0, whatever n is.
func modulo(n, many int) int { return (n%many + many) % many }

func (x *Sim) send(p *party, s api.Step) api.Errno { return x.exchange(p, x.sending(p)) }

func (x *Sim) fetch(p *party, s api.Step) api.Errno {
	return x.exchange(p, func() (string, api.Errno) { return p.client.Fetch(s.N) })
}

func (x *Sim) keep(p *party, s api.Step) api.Errno { return x.exchange(p, p.client.Keep) }

func (x *Sim) join(p *party, s api.Step) api.Errno { return x.exchange(p, p.client.Join) }

// exchange lets a client send a frame, and hear the answer, as the script has it turned.
func (x *Sim) exchange(p *party, frame func() (string, api.Errno)) api.Errno {
	s, e := frame()
	if e != api.OK {
		return e
	}
	answer, ok := p.turn(x.ask(s))
	p.turn = asItIs
	if !ok {
		return api.OK
	}
	return x.hear(p, answer)
}

func (x *Sim) add(p *party, s api.Step) api.Errno { return p.client.Control(api.RecAdd, s.At) }

func (x *Sim) remove(p *party, s api.Step) api.Errno { return p.client.Control(api.RecRemove, s.At) }

// rotate is of nobody, whatever the step names.
func (x *Sim) rotate(p *party, s api.Step) api.Errno { return p.client.Control(api.RecRotate, 0) }

func (x *Sim) fuse(p *party, s api.Step) api.Errno { return p.device.Fuse(s.N) }

func (x *Sim) start(p *party, s api.Step) api.Errno {
	p.device.On()
	x.open(p)
	// What it heard as the power went off, it may have accepted, or not: that is seen but now.
	x.note(p)
	return api.OK
}

func (x *Sim) twist(p *party, s api.Step) api.Errno {
	p.turn = p.turning(s)
	return api.OK
}
