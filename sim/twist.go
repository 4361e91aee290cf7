package sim

import (
	"slices"

	"samphire/api"
	"samphire/wire"
)

// How an answer is twisted.
const (
	unheard = iota
	asText
	lastByte
	round
	lessFirst
	lastTwice
	laterEpochs
	asAhead
	// So many ways there are.
	twists
)

// turn is what is heard in place of an answer; false, if nothing is.
type turn func(answer string) (string, bool)

// asItIs lets an answer be heard that is not twisted.
func asItIs(answer string) (string, bool) { return answer, true }

// turning is what a step asks for.
func (p *party) turning(s api.Step) turn {
	way := modulo(s.N, twists)
	switch way {
	case unheard:
		return func(string) (string, bool) { return "", false }
	case asText:
		return func(string) (string, bool) { return s.Text, true }
	case asAhead:
		return p.again
	}
	return func(answer string) (string, bool) { return turned(answer, way), true }
}

// again is what was heard ahead of an answer; itself, if nothing was.
func (p *party) again(answer string) (string, bool) {
	if !p.hasHeard {
		return answer, true
	}
	return p.heard, true
}

// turned is an answer, which is a frame, with other parts; itself, if it would be none then.
func turned(answer string, way int) string {
	f, _ := wire.Take(answer)
	switch way {
	case lastByte:
		turnByte(&f)
	case round:
		turnRound(f.Items)
	case lessFirst:
		f.Items = f.Items[min(1, len(f.Items)):]
	case lastTwice:
		double(&f)
	case laterEpochs:
		raise(&f)
	}
	s, e := wire.Put(f)
	if e != api.OK {
		return answer
	}
	return s
}

// turnByte lets the last byte of the last Blob be another one.
func turnByte(f *api.Frame) {
	blob := &f.Blob
	if n := len(f.Items); n > 0 {
		blob = &f.Items[n-1].Blob
	}
	if n := len(*blob); n > 0 {
		*blob = (*blob)[:n-1] + string([]byte{(*blob)[n-1] ^ 1})
	}
}

// turnRound lets all but the numbers stand the other way round.
func turnRound(l []api.Item) {
	slices.Reverse(l)
	for i := range len(l) / 2 {
		other := len(l) - 1 - i
		l[i].Seq, l[other].Seq = l[other].Seq, l[i].Seq
	}
}

// double lets the last record be there once more, as the next one.
func double(f *api.Frame) {
	if n := len(f.Items); n > 0 {
		i := f.Items[n-1]
		i.Seq++
		f.Items = append(f.Items, i)
	}
}

// raise lets all epochs that an answer names be one more.
func raise(f *api.Frame) {
	for k := range f.Items {
		f.Items[k].Epoch++
	}
	if f.Kind == api.FrameSnap {
		f.Epoch++
	}
}
