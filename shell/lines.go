package shell

import (
	"strconv"
	"strings"

	"samphire/api"
	"samphire/sim"
	"samphire/view"
)

const admin = 1

// In all of these, the words are read ahead of asking for what they are about: a line that is none is so anywhere.

// world lets there be a simulation, in place of the one that was.
func (s *script) world(words []string) string {
	c := api.Config{Clients: number(words[0]), Ideal: isIdeal(words[1]), Quota: number(words[2])}
	x, e := sim.New(c)
	must(e)
	s.town = x
	return done
}

// asked is the simulation; a line without one is given up.
func (s *script) asked() *sim.Sim {
	if s.town == nil {
		giveUp(api.ErrNone)
	}
	return s.town
}

// step lets a step be done; a line whose step is refused is given up.
func (s *script) step(what api.Step) string {
	must(s.asked().Step(what))
	return done
}

func (s *script) create(words []string) string {
	return s.step(api.Step{Kind: api.StepEdit, At: number(words[0]), Op: api.OpCreate, Into: number(words[1]), Name: words[2]})
}

func (s *script) move(words []string) string {
	return s.step(api.Step{Kind: api.StepEdit, At: number(words[0]), Op: api.OpMove, Node: number(words[1]), Into: number(words[2])})
}

func (s *script) rename(words []string) string {
	return s.step(api.Step{Kind: api.StepEdit, At: number(words[0]), Op: api.OpRename, Node: number(words[1]), Name: words[2]})
}

func (s *script) set(words []string) string {
	return s.step(api.Step{Kind: api.StepEdit, At: number(words[0]), Op: api.OpSet, Node: number(words[1]), Value: value(words[2])})
}

func (s *script) trash(words []string) string {
	return s.step(api.Step{Kind: api.StepEdit, At: number(words[0]), Op: api.OpTrash, Node: number(words[1])})
}

// ofOne is a step of a kind, of which a line says whose it is.
func ofOne(kind int) func(s *script, words []string) string {
	return func(s *script, words []string) string {
		return s.step(api.Step{Kind: kind, At: number(words[0])})
	}
}

// ofOneAndNumber is a step of a kind, of which a line says whose it is, and of how many.
func ofOneAndNumber(kind int) func(s *script, words []string) string {
	return func(s *script, words []string) string {
		return s.step(api.Step{Kind: kind, At: number(words[0]), N: number(words[1])})
	}
}

func (s *script) rotate([]string) string {
	return s.step(api.Step{Kind: api.StepRotate, At: admin})
}

func (s *script) twist(words []string) string {
	what := api.Step{Kind: api.StepTwist, At: number(words[0]), N: number(words[1])}
	if len(words) > 2 {
		what.Text = unhexed(words[2])
	}
	return s.step(what)
}

func (s *script) calm([]string) string {
	if s.asked().Calm() {
		return "calm" + newline
	}
	return "uncalm" + newline
}

// show tells the tree that a client has.
func (s *script) show(words []string) string {
	who := number(words[0])
	// A client's nodes are a tree's.
	l, _ := view.Lines(s.asked().Nodes(who))
	if len(l) == 0 {
		return "none" + newline
	}
	return view.Text(l)
}

// state tells how far a client is.
func (s *script) state(words []string) string {
	who := number(words[0])
	x := s.asked()
	many, _ := x.Chain(who)
	told := []string{strconv.Itoa(many), strconv.Itoa(x.Waits(who)), "out", "true"}
	if x.Joined(who) {
		told[2] = "in"
	}
	if x.Tampered(who) {
		told[3] = "tampered"
	}
	for _, epoch := range x.Epochs(who) {
		told = append(told, strconv.Itoa(epoch))
	}
	return together(told)
}

func (s *script) relay([]string) string {
	x := s.asked()
	return together([]string{strconv.Itoa(x.Last()), strconv.Itoa(len(x.View()))})
}

// together are words as a line.
func together(words []string) string { return strings.Join(words, " ") + newline }
