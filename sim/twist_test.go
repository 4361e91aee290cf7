package sim

import (
	"fmt"
	"math"
	"reflect"
	"slices"
	"strings"
	"testing"

	"samphire/api"
)

// Si2: how answers are twisted.

// scene is how far a simulation has come, and a step of 2 that is answered then.
type scene struct {
	name string
	made func(t *testing.T, ideal bool) *Sim
	step api.Step
}

// many lets there be so many records that 2 has not fetched yet, and some that it has, and something that it heard ahead.
func many(n int) func(t *testing.T, ideal bool) *Sim {
	return func(t *testing.T, ideal bool) *Sim {
		x := grouped(t, 2, ideal)
		ok(t, x, create(1, 0, "ahead"))
		flush(t, x, 1)
		ok(t, x, fetch(2, 9))
		for k := range n {
			ok(t, x, create(1, 0, fmt.Sprint(k)))
		}
		flush(t, x, 1)
		return x
	}
}

// gone lets 2 be behind a snapshot.
func gone(t *testing.T, ideal bool) *Sim {
	x := many(3)(t, ideal)
	ok(t, x, keep(1))
	return x
}

func waiting(t *testing.T, ideal bool) *Sim {
	x := many(2)(t, ideal)
	ok(t, x, create(2, 0, "w"))
	return x
}

func scenes() []scene {
	return []scene{
		{"no items", many(0), fetch(2, 32)},
		{"no items, asked for none", many(3), fetch(2, 0)},
		{"one item", many(1), fetch(2, 32)},
		{"two items", many(2), fetch(2, 32)},
		{"three items", many(5), fetch(2, 3)},
		{"31 items", many(31), fetch(2, 32)},
		{"32 items", many(32), fetch(2, 32)},
		{"a snapshot", gone, join(2)},
		{"an error", gone, fetch(2, 9)},
		{"the first answer of all", func(t *testing.T, ideal bool) *Sim { return simOf(t, 2, ideal) }, join(2)},
		{"taken", waiting, send(2)},
	}
}

// turnedFrame is what is heard in place of an answer, by hand; false, if nothing is.
func turnedFrame(t *testing.T, a api.Frame, n int, text, ahead string) (string, bool) {
	l := slices.Clone(a.Items)
	switch n {
	case 0:
		return "", false
	case 1:
		return text, true
	case 2:
		if len(l) > 0 {
			l[len(l)-1].Blob = flipped(l[len(l)-1].Blob)
		}
		if a.Blob != "" {
			a.Blob = flipped(a.Blob)
		}
	case 3:
		for k := range l {
			other := a.Items[len(l)-1-k]
			l[k].Epoch, l[k].Blob = other.Epoch, other.Blob
		}
	case 4:
		if len(l) > 0 {
			l = l[1:]
		}
	case 5:
		if n := len(l); n > 0 && n < 32 {
			l = append(l, l[n-1])
			l[n].Seq++
		}
	case 6:
		for k := range l {
			l[k].Epoch++
		}
		if a.Kind == api.FrameSnap {
			a.Epoch++
		}
	case 7:
		if ahead != "" {
			return ahead, true
		}
	}
	a.Items = l
	return asBytes(t, a), true
}

func TestEachTwistOfEachAnswer(t *testing.T) {
	both(t, func(t *testing.T, ideal bool) {
		for _, s := range scenes() {
			for n := range 8 {
				name := fmt.Sprintf("%s, twisted by %d", s.name, n)
				plain, x, y := s.made(t, ideal), s.made(t, ideal), s.made(t, ideal)
				plain.Step(s.step)
				_, answer := lastSeen(t, plain)
				text := asBytes(t, api.Frame{Kind: api.FrameError, Err: 321})
				want, heard := turnedFrame(t, answer, n, text, x.parties[1].heard)
				ok(t, x, api.Step{Kind: api.StepTwist, At: 2, N: n, Text: text})
				if !heard {
					was := tell(x).Clients
					ok(t, x, s.step)
					if is := tell(x).Clients; s.step.Kind != api.StepSend && !reflect.DeepEqual(is, was) {
						t.Errorf("%s: something was heard", name)
					}
					if x.parties[1].heard != y.parties[1].heard || !slices.Equal(x.View(), plain.View()) {
						t.Errorf("%s: something else was heard, or seen", name)
					}
					continue
				}
				ok(t, y, twistText(2, want))
				if a, b := x.Step(s.step), y.Step(s.step); a != b {
					t.Errorf("%s: %d, not %d", name, a, b)
				}
				if !reflect.DeepEqual(tell(x), tell(y)) {
					t.Errorf("%s: it is not as if it had heard what it should", name)
				}
				// The relay saw, and answered, what it does without a twist.
				if !slices.Equal(x.View(), plain.View()) {
					t.Errorf("%s: the relay saw something else", name)
				}
				if got := x.parties[1].heard; got != want {
					t.Errorf("%s: heard\n%.100x\n%.100x", name, got, want)
				}
			}
		}
	})
}

// Frames that no client of ours would lead to: few bytes, none, and as many, or as great numbers, as there may be.
func TestTwistsOfOddFrames(t *testing.T) {
	given := func(l ...api.Item) api.Frame { return api.Frame{Kind: api.FrameGiven, Items: l} }
	i := func(seq, epoch int, blob string) api.Item { return api.Item{Seq: seq, Epoch: epoch, Blob: blob} }
	great := strings.Repeat("b", 20000)
	for k, w := range []struct {
		way       int
		was, then api.Frame
	}{
		{2, given(i(1, 1, "ab"), i(2, 1, "a")), given(i(1, 1, "ab"), i(2, 1, "`"))},
		{2, given(i(1, 1, "ab"), i(2, 1, "")), given(i(1, 1, "ab"), i(2, 1, ""))},
		{2, api.Frame{Kind: api.FrameSnap, Seq: 1, Blob: "a"}, api.Frame{Kind: api.FrameSnap, Seq: 1, Blob: "`"}},
		{2, api.Frame{Kind: api.FrameSnap, Seq: 1}, api.Frame{Kind: api.FrameSnap, Seq: 1}},
		{3, given(i(1, 4, "a"), i(2, 5, "b"), i(9, 6, "c"), i(7, 7, "d")), given(i(1, 7, "d"), i(2, 6, "c"), i(9, 5, "b"), i(7, 4, "a"))},
		{4, given(i(5, 1, "a"), i(6, 1, "b"), i(7, 1, "c")), given(i(6, 1, "b"), i(7, 1, "c"))},
		{5, given(i(5, 1, "a"), i(6, 2, "b")), given(i(5, 1, "a"), i(6, 2, "b"), i(7, 2, "b"))},
		{5, given(i(maxTime, 1, "a")), given(i(maxTime, 1, "a"))},
		{5, given(i(1, 1, great), i(2, 1, great), i(3, 1, great)), given(i(1, 1, great), i(2, 1, great), i(3, 1, great))},
		{6, given(i(1, 1, "a"), i(2, maxTime-1, "b")), given(i(1, 2, "a"), i(2, maxTime, "b"))},
		{6, given(i(1, 1, "a"), i(2, maxTime, "b")), given(i(1, 1, "a"), i(2, maxTime, "b"))},
		{6, api.Frame{Kind: api.FrameTaken, Seq: 4}, api.Frame{Kind: api.FrameTaken, Seq: 4}},
		{6, api.Frame{Kind: api.FrameSnap, Seq: 4, Epoch: 5, Blob: "a"}, api.Frame{Kind: api.FrameSnap, Seq: 4, Epoch: 6, Blob: "a"}},
	} {
		if s := turned(asBytes(t, w.was), w.way); s != asBytes(t, w.then) {
			t.Errorf("%d: %x", k, s)
		}
	}
}

// What comes of it, told outright.
func TestTwistsOfRecords(t *testing.T) {
	both(t, func(t *testing.T, ideal bool) {
		for k, w := range []struct {
			n, records int
			e          api.Errno
			accepted   int
		}{
			{0, 2, api.OK, 0}, {1, 2, api.ErrWire, 0}, {2, 2, api.ErrTampered, 0}, {3, 2, api.ErrTampered, 0},
			{4, 2, api.ErrWire, 0}, {5, 2, api.ErrTampered, 0}, {6, 2, api.ErrTampered, 0}, {7, 2, api.ErrWire, 0},
			{0, 1, api.OK, 0}, {1, 1, api.ErrWire, 0}, {2, 1, api.ErrTampered, 0}, {3, 1, api.OK, 1},
			{4, 1, api.OK, 0}, {5, 1, api.ErrTampered, 0}, {6, 1, api.ErrTampered, 0}, {7, 1, api.ErrWire, 0},
			{0, 0, api.OK, 0}, {1, 0, api.ErrWire, 0}, {2, 0, api.OK, 0}, {3, 0, api.OK, 0},
			{4, 0, api.OK, 0}, {5, 0, api.OK, 0}, {6, 0, api.OK, 0}, {7, 0, api.ErrWire, 0},
			{5, 32, api.OK, 32},
		} {
			x := many(w.records)(t, ideal)
			had, _ := x.Chain(2)
			ok(t, x, twist(2, w.n))
			does(t, x, w.e, fetch(2, 32))
			has(t, x, 2, had+w.accepted)
			if x.Tampered(2) != (w.e == api.ErrTampered) {
				t.Errorf("%d: tampered: %t", k, x.Tampered(2))
			}
		}
	})
}

func TestTwistsOfASnapshot(t *testing.T) {
	both(t, func(t *testing.T, ideal bool) {
		for n, want := range []api.Errno{api.OK, api.ErrWire, api.ErrSeal, api.OK, api.OK, api.OK, api.ErrSeal, api.ErrWire} {
			x := gone(t, ideal)
			had, _ := x.Chain(2)
			ok(t, x, twist(2, n))
			does(t, x, want, join(2))
			many := had
			if n >= 3 && n <= 5 {
				many = had + 3
			}
			has(t, x, 2, many)
			if x.Tampered(2) {
				t.Errorf("%d: it is tampered", n)
			}
			// 7: what it heard ahead were records that it has. The snapshot is there yet.
			ok(t, x, join(2))
			has(t, x, 2, had+3)
		}
	})
}

func TestTwistsOfErrors(t *testing.T) {
	both(t, func(t *testing.T, ideal bool) {
		for n, want := range []api.Errno{api.OK, api.ErrWire, api.ErrGone, api.ErrGone, api.ErrGone, api.ErrGone, api.ErrGone, api.ErrWire} {
			x := gone(t, ideal)
			ok(t, x, twist(2, n))
			does(t, x, want, fetch(2, 9))
			does(t, x, api.ErrGone, fetch(2, 9))
		}
	})
}

// Whatever N is: it is taken modulo 8.
func TestTwistsModulo8(t *testing.T) {
	for _, n := range []int{math.MinInt, math.MinInt + 1, -17, -16, -15, -8, -7, -6, -5, -4, -3, -2, -1, 8, 9, 10, 11, 12, 13, 14, 15, 16, 800, math.MaxInt - 1, math.MaxInt} {
		x, y := many(3)(t, true), many(3)(t, true)
		in := n & 7
		ok(t, x, api.Step{Kind: api.StepTwist, At: 2, N: n, Text: "text"})
		ok(t, y, api.Step{Kind: api.StepTwist, At: 2, N: in, Text: "text"})
		if a, b := x.Step(fetch(2, 9)), y.Step(fetch(2, 9)); a != b || !reflect.DeepEqual(tell(x), tell(y)) || x.parties[1].heard != y.parties[1].heard {
			t.Errorf("%d is not %d: %d, %d", n, in, a, b)
		}
	}
}

// It twists the next answer, to that client, and no other one.
func TestTwistOfTheNextAnswerAlone(t *testing.T) {
	both(t, func(t *testing.T, ideal bool) {
		for n := range 8 {
			x := many(3)(t, ideal)
			// What is refused ahead of an answer, and answers to others, leave it.
			ok(t, x, twist(2, 1), create(1, 0, "a"))
			does(t, x, api.ErrNone, send(2))
			does(t, x, api.ErrArg, fetch(2, -1))
			does(t, x, api.ErrMember, keep(2))
			ok(t, x, send(1), fetch(1, 9), create(2, 0, "b"), start(2))
			// Neither does the device hold it, nor all that was let calm; and another one takes its place.
			if n > 3 && !x.Calm() {
				t.Error("it is not calm")
			}
			does(t, x, api.ErrWire, fetch(2, 9))
			ok(t, x, fetch(2, 0), twist(2, 2), twist(2, n), twistText(2, "junk"), twist(2, 0), join(2), fetch(2, 9), fetch(2, 9))
			if x.Tampered(2) {
				t.Error("it was twisted once more")
			}
			has(t, x, 2, x.Last())
		}
	})
}

// Where there is nothing to be twisted, it is heard as it is, and the twist is gone with it.
func TestTwistOfWhatCanNotBe(t *testing.T) {
	both(t, func(t *testing.T, ideal bool) {
		for n := 2; n <= 6; n++ {
			x := many(0)(t, ideal)
			ok(t, x, create(2, 0, "a"), twist(2, n), send(2))
			ok(t, x, create(1, 0, "b"), send(1), fetch(2, 9))
			has(t, x, 2, x.Last())
			if x.Tampered(2) || x.Waits(2) != 0 {
				t.Error(n)
			}
		}
		for n := 2; n <= 6; n++ {
			x := many(2)(t, ideal)
			ok(t, x, twist(2, n), fetch(2, 0), fetch(2, 9))
			has(t, x, 2, x.Last())
		}
		// The first answer of all has none ahead.
		x := simOf(t, 2, ideal)
		ok(t, x, create(1, 0, "a"), add(2), twist(1, 7), send(1), fetch(1, 9), send(1), fetch(1, 9), keep(1), twist(2, 7), join(2))
		has(t, x, 2, 2)
		if !x.Joined(2) {
			t.Error("2 has not joined")
		}
	})
}

// What is heard in place of an answer is what was heard ahead of it, whatever that was.
func TestTwistByWhatWasHeardAhead(t *testing.T) {
	both(t, func(t *testing.T, ideal bool) {
		x := many(4)(t, ideal)
		had, _ := x.Chain(2)
		heard := func(want api.Errno) {
			t.Helper()
			ok(t, x, twist(2, 7))
			does(t, x, want, join(2))
		}
		does(t, x, 77, twistedText(t, x, 2, asBytes(t, api.Frame{Kind: api.FrameError, Err: 77}), fetch(2, 9)))
		heard(77)
		heard(77)
		// An answer that is not heard is none that was.
		ok(t, x, twist(2, 0), fetch(2, 9))
		heard(77)
		// Those to others neither.
		does(t, x, 55, twistedText(t, x, 1, asBytes(t, api.Frame{Kind: api.FrameError, Err: 55}), fetch(1, 9)))
		heard(77)
		ok(t, x, start(2))
		heard(77)
		does(t, x, api.ErrWire, twistedText(t, x, 2, "junk", fetch(2, 9)))
		heard(api.ErrWire)
		// The empty text is one, too.
		does(t, x, api.ErrWire, twistedText(t, x, 2, "", fetch(2, 9)))
		heard(api.ErrWire)
		has(t, x, 2, had)
		// What was answered while power went off was heard.
		ok(t, x, fuse(2, 0))
		does(t, x, api.ErrOff, fetch(2, 2))
		ok(t, x, start(2))
		has(t, x, 2, had)
		heard(api.OK)
		has(t, x, 2, had+2)
		// And so was what was answered while all was let calm: that there is nothing more.
		ok(t, x, create(1, 0, "z"), send(1))
		if !x.Calm() {
			t.Error("it is not calm")
		}
		heard(api.OK)
		has(t, x, 2, x.Last())
	})
}

// Text is heard as it is, whatever it is.
func TestTwistByText(t *testing.T) {
	both(t, func(t *testing.T, ideal bool) {
		x := many(2)(t, ideal)
		had, _ := x.Chain(2)
		for text, want := range map[string]api.Errno{
			"":     api.ErrWire,
			"junk": api.ErrWire,
			asBytes(t, api.Frame{Kind: api.FrameAsk}):                     api.ErrWire,
			asBytes(t, api.Frame{Kind: api.FrameGiven, Group: 1}):         api.ErrWire,
			asBytes(t, api.Frame{Kind: api.FrameTaken, Seq: 99}):          api.OK,
			asBytes(t, api.Frame{Kind: api.FrameKept}):                    api.OK,
			asBytes(t, api.Frame{Kind: api.FrameError}):                   api.OK,
			asBytes(t, api.Frame{Kind: api.FrameError, Err: 999}):         999,
			asBytes(t, api.Frame{Kind: api.FrameSnap, Seq: 99, Epoch: 2}): api.ErrSeal,
		} {
			does(t, x, want, twistedText(t, x, 2, text, fetch(2, 9)))
			has(t, x, 2, had)
		}
		// Of other ways it is not taken.
		ok(t, x, api.Step{Kind: api.StepTwist, At: 2, N: 5, Text: "junk"}, fetch(2, 0))
		// The records themselves are heard by it as well.
		ok(t, x, twist(2, 0), fetch(2, 9))
		_, records := lastSeen(t, x)
		ok(t, x, twistText(2, asBytes(t, records)), fetch(2, 0))
		has(t, x, 2, had+2)
	})
}
