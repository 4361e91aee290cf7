package sim

import (
	"fmt"
	"slices"
	"testing"

	"samphire/api"
)

// Si4.

// calm holds what Calm answers, that it counts no steps, and which frames it lets be seen: who sends them, and what they
// are, one behind the other, as long as they are told.
func calm(t *testing.T, x *Sim, want bool, frames ...string) {
	t.Helper()
	steps, seen := x.Steps(), len(x.View())
	if is := x.Calm(); is != want {
		t.Errorf("Calm: %t, not %t", is, want)
	}
	if x.Steps() != steps {
		t.Errorf("%d steps, %d ahead", x.Steps(), steps)
	}
	if frames == nil {
		return
	}
	var l []string
	in, out := framesOf(t, x.View()[seen:])
	for k := range in {
		l = append(l, brief(in[k], out[k]))
	}
	if !slices.Equal(l, frames) {
		t.Errorf("%d frames:\n%q\nnot %d:\n%q", len(l), l, len(frames), frames)
	}
}

// brief is a frame, and what was answered, in short.
func brief(in, out api.Frame) string {
	a := ""
	switch out.Kind {
	case api.FrameGiven:
		a = fmt.Sprint(len(out.Items))
	case api.FrameError:
		a = fmt.Sprint("error ", int(out.Err))
	default:
		a = fmt.Sprint("number ", out.Seq)
	}
	switch in.Kind {
	case api.FrameAppend:
		return "append: " + a
	case api.FrameFetch:
		return fmt.Sprintf("fetch %d from %d: %s", in.Max, in.Seq, a)
	case api.FrameAsk:
		return "ask: " + a
	}
	return "keep: " + a
}

// equal holds that clients have all that there is, and show the same.
func equal(t *testing.T, x *Sim, whos ...int) {
	t.Helper()
	for _, who := range whos {
		has(t, x, who, x.Last())
		if !slices.Equal(x.Nodes(who), x.Nodes(whos[0])) || x.Waits(who) != 0 || !slices.Equal(x.Accepted(who), x.Accepted(whos[0])) {
			t.Errorf("%d is not as %d: %d wait", who, whos[0], x.Waits(who))
		}
	}
}

func TestCalmOfNothing(t *testing.T) {
	both(t, func(t *testing.T, ideal bool) {
		for clients := 1; clients <= 6; clients++ {
			// Who has not joined takes no part.
			calm(t, simOf(t, clients, ideal), true, "fetch 8 from 1: 0", "fetch 8 from 1: 0")
		}
	})
}

// The frames, one by one: what was missed is fetched, what waits is sent and fetched, and all fetch once more.
func TestCalmStepByStep(t *testing.T) {
	both(t, func(t *testing.T, ideal bool) {
		x := grouped(t, 2, ideal)
		for k := range 10 {
			ok(t, x, create(1, 0, fmt.Sprint(k)))
		}
		flush(t, x, 1)
		ok(t, x, create(2, 0, "a"), create(2, 0, "b"))
		calm(t, x, true,
			"fetch 8 from 12: 0",
			"fetch 8 from 2: 8", "fetch 8 from 10: 2", "fetch 8 from 12: 0", "append: number 12", "fetch 8 from 12: 1", "fetch 8 from 13: 0",
			"fetch 8 from 12: 1", "fetch 8 from 13: 0",
			"fetch 8 from 13: 0", "append: number 13", "fetch 8 from 13: 1", "fetch 8 from 14: 0",
			"fetch 8 from 13: 1", "fetch 8 from 14: 0",
			"fetch 8 from 14: 0")
		equal(t, x, 1, 2)
		// Once more, all is so already.
		calm(t, x, true, "fetch 8 from 14: 0", "fetch 8 from 14: 0", "fetch 8 from 14: 0", "fetch 8 from 14: 0")
	})
}

// What was sent, and not seen yet, is sent no more.
func TestCalmOfWhatWasSent(t *testing.T) {
	both(t, func(t *testing.T, ideal bool) {
		x := grouped(t, 2, ideal)
		ok(t, x, create(2, 0, "a"), send(2))
		calm(t, x, true,
			"fetch 8 from 2: 1", "fetch 8 from 3: 0",
			"fetch 8 from 2: 1", "fetch 8 from 3: 0",
			"fetch 8 from 3: 0", "fetch 8 from 3: 0")
		equal(t, x, 1, 2)
	})
}

func TestCalmBehindASnapshot(t *testing.T) {
	both(t, func(t *testing.T, ideal bool) {
		x := grouped(t, 3, ideal)
		ok(t, x, create(1, 0, "a"), create(1, 0, "b"))
		flush(t, x, 1)
		ok(t, x, keep(1), create(1, 0, "c"))
		flush(t, x, 1)
		ok(t, x, fuse(3, 0))
		does(t, x, api.ErrOff, create(3, 0, "d"))
		ok(t, x, create(2, 0, "e"))
		calm(t, x, true,
			"fetch 8 from 6: 0",
			"fetch 8 from 3: error 210", "ask: number 4", "fetch 8 from 5: 1", "fetch 8 from 6: 0", "append: number 6", "fetch 8 from 6: 1", "fetch 8 from 7: 0",
			"fetch 8 from 6: 1", "fetch 8 from 7: 0",
			"fetch 8 from 7: 0")
		equal(t, x, 1, 2)
		has(t, x, 3, 2)
		ok(t, x, start(3))
		calm(t, x, true)
		equal(t, x, 1, 2, 3)
	})
}

// All that may wait of all that there may be is sent: 60 times are enough for that.
func TestCalmOfMuch(t *testing.T) {
	both(t, func(t *testing.T, ideal bool) {
		x := grouped(t, 3, ideal)
		for k := range 32 {
			for who := 1; who <= 3; who++ {
				ok(t, x, create(who, 0, fmt.Sprint(who, "-", k)))
			}
		}
		calm(t, x, true)
		equal(t, x, 1, 2, 3)
		if len(x.Nodes(1)) != 96 || x.Last() != 98 {
			t.Error(len(x.Nodes(1)), x.Last())
		}
	})
}

// What the relay has no room for waits yet, behind 60 times.
func TestCalmOfWhatCanNotBeSent(t *testing.T) {
	both(t, func(t *testing.T, ideal bool) {
		x, _ := New(api.Config{Clients: 2, Ideal: ideal, Quota: 200})
		ok(t, x, create(1, 0, "a"), create(1, 0, "b"))
		want := []string{"fetch 8 from 1: 0", "append: number 1", "fetch 8 from 1: 1", "fetch 8 from 2: 0"}
		for range 59 {
			want = append(want, "fetch 8 from 2: 0", "append: error 211", "fetch 8 from 2: 0")
		}
		calm(t, x, false, append(want, "fetch 8 from 2: 0")...)
		has(t, x, 1, 1)
		if x.Waits(1) != 1 {
			t.Error(x.Waits(1))
		}
	})
}

// Who is off, or tampered, or has not joined, takes no part, and does not count.
func TestCalmWithoutSome(t *testing.T) {
	both(t, func(t *testing.T, ideal bool) {
		x := grouped(t, 4, ideal)
		ok(t, x, create(1, 0, "a"), create(2, 0, "b"), create(3, 0, "c"), create(4, 0, "d"), send(1), fuse(2, 0), twist(3, 2))
		does(t, x, api.ErrOff, fetch(2, 9))
		does(t, x, api.ErrTampered, fetch(3, 9))
		was := tell(x).Clients
		calm(t, x, true)
		equal(t, x, 1, 4)
		is := tell(x).Clients
		for who := 2; who <= 3; who++ {
			if fmt.Sprint(is[who+1]) != fmt.Sprint(was[who+1]) {
				t.Errorf("%d took part", who)
			}
		}
		// And that the admin is off, too.
		ok(t, x, create(4, 0, "e"), fuse(1, 0))
		does(t, x, api.ErrOff, create(1, 0, "f"))
		calm(t, x, true, "fetch 8 from 6: 0", "append: number 6", "fetch 8 from 6: 1", "fetch 8 from 7: 0", "fetch 8 from 7: 0")
		has(t, x, 1, 5)
		has(t, x, 4, 6)
		ok(t, x, start(1), start(2))
		calm(t, x, true)
		equal(t, x, 1, 2, 4)
		// With nobody who takes part, nothing is lacking.
		y := simOf(t, 1, ideal)
		ok(t, y, fuse(1, 0))
		does(t, y, api.ErrOff, create(1, 0, "a"))
		calm(t, y, true)
		if len(y.View()) != 0 {
			t.Error("something was sent")
		}
	})
}

// Who was added joins by a step alone.
func TestCalmDoesNotLetThemJoin(t *testing.T) {
	both(t, func(t *testing.T, ideal bool) {
		x := simOf(t, 2, ideal)
		ok(t, x, add(2))
		calm(t, x, true)
		ok(t, x, keep(1))
		calm(t, x, true)
		if x.Joined(2) {
			t.Error("2 has joined")
		}
		has(t, x, 1, 1)
	})
}

// Who is removed hears of that, and does not count any more.
func TestCalmOfWhoIsRemoved(t *testing.T) {
	both(t, func(t *testing.T, ideal bool) {
		x := grouped(t, 3, ideal)
		ok(t, x, create(3, 0, "a"), create(3, 0, "b"), create(3, 0, "c"), remove(3), create(1, 0, "d"))
		calm(t, x, true)
		equal(t, x, 1, 2)
		if x.Joined(3) || x.Waits(3) != 0 || len(x.Epochs(3)) != 0 {
			t.Error("3 does not know that it was removed")
		}
		if n, _ := x.Chain(3); n >= x.Last() {
			t.Error("3 has gone on")
		}
	})
}

// Who was removed behind a snapshot can not know it: it stays as it was, and what waits of it does not hold up the others.
func TestCalmOfWhoWasRemovedBehindASnapshot(t *testing.T) {
	both(t, func(t *testing.T, ideal bool) {
		x := grouped(t, 3, ideal)
		ok(t, x, create(3, 0, "a"), create(3, 0, "b"), remove(3))
		flush(t, x, 1)
		ok(t, x, keep(1))
		was := tell(x).Clients[4]
		calm(t, x, true,
			"fetch 8 from 4: 0",
			"fetch 8 from 3: error 210", "ask: number 3", "fetch 8 from 4: 0",
			"fetch 8 from 3: error 210", "ask: number 3", "fetch 8 from 3: error 210", "append: number 4", "fetch 8 from 3: error 210",
			"fetch 8 from 4: 1", "fetch 8 from 5: 0",
			"fetch 8 from 4: 1", "fetch 8 from 5: 0",
			"fetch 8 from 3: error 210", "ask: number 3", "fetch 8 from 3: error 210")
		if is := tell(x).Clients[4]; fmt.Sprint(is) != fmt.Sprint(was) {
			t.Error("3 is not as it was")
		}
		equal(t, x, 1, 2)
		if len(x.Nodes(1)) != 0 {
			t.Error("what 3 sent counts")
		}
	})
}

// Who is tampered meanwhile counts: what it has is not what there is.
func TestNotCalm(t *testing.T) {
	both(t, func(t *testing.T, ideal bool) {
		x := grouped(t, 3, ideal)
		ok(t, x, rotate(), rotate(), rotate())
		calm(t, x, true)
		// 2 hears of something that it can't read any more, and goes on from that: the others are told by what it sends.
		other := asBytes(t, api.Frame{Kind: api.FrameGiven, Items: []api.Item{{Seq: x.Last() + 1, Epoch: 1, Blob: "another one"}}})
		ok(t, x, create(1, 0, "c"), twistText(2, other), fetch(2, 9))
		flush(t, x, 1)
		ok(t, x, create(2, 0, "d"))
		has(t, x, 1, x.Last())
		has(t, x, 2, x.Last())
		calm(t, x, false)
		if !x.Tampered(1) || x.Tampered(2) || !x.Tampered(3) || x.Waits(2) != 0 {
			t.Error("not just 1 and 3 are tampered")
		}
		calm(t, x, true)
	})
}

// Whose power goes off meanwhile does not count any more, whatever waits of it.
func TestCalmWhilePowerGoesOff(t *testing.T) {
	both(t, func(t *testing.T, ideal bool) {
		x := grouped(t, 3, ideal)
		ok(t, x, create(1, 0, "a"), fuse(2, 0))
		calm(t, x, true,
			"fetch 8 from 3: 0", "append: number 3", "fetch 8 from 3: 1", "fetch 8 from 4: 0",
			"fetch 8 from 3: 1",
			"fetch 8 from 3: 1", "fetch 8 from 4: 0",
			"fetch 8 from 4: 0", "fetch 8 from 4: 0")
		if x.Runs(2) {
			t.Error("2 runs yet")
		}
		has(t, x, 2, 2)
		equal(t, x, 1, 3)
		calm(t, x, true)
		ok(t, x, start(2))
		calm(t, x, true)
		equal(t, x, 1, 2, 3)
		ok(t, x, create(2, 0, "b"), fuse(2, 0))
		calm(t, x, true,
			"fetch 8 from 4: 0", "fetch 8 from 4: 0", "fetch 8 from 4: 0",
			"fetch 8 from 4: 0", "fetch 8 from 4: 0")
		if x.Runs(2) || x.Waits(2) != 1 {
			t.Error("2 runs yet")
		}
		ok(t, x, start(2))
		calm(t, x, true)
		equal(t, x, 1, 2, 3)
	})
}

// Who was removed, and added again, is as who was added: it does not count till it has joined. But who knows of neither,
// as the relay has no snapshot by which it could, does not have all.
func TestCalmOfWhoWasAddedAgain(t *testing.T) {
	both(t, func(t *testing.T, ideal bool) {
		x := grouped(t, 3, ideal)
		ok(t, x, remove(3), add(3))
		calm(t, x, true)
		equal(t, x, 1, 2)
		if x.Joined(3) {
			t.Error("3 has joined")
		}
		ok(t, x, keep(1), join(3))
		calm(t, x, true)
		equal(t, x, 1, 2, 3)

		ok(t, x, remove(3))
		flush(t, x, 1)
		ok(t, x, keep(1), add(3))
		calm(t, x, false)
		equal(t, x, 1, 2)
		has(t, x, 3, x.Last()-2)
		ok(t, x, keep(1))
		calm(t, x, true)
		equal(t, x, 1, 2, 3)
	})
}

// In the group as the client 1 knows it: what the others know does not matter.
func TestCalmByTheGroupOfTheAdmin(t *testing.T) {
	both(t, func(t *testing.T, ideal bool) {
		x := grouped(t, 3, ideal)
		ok(t, x, create(1, 0, "a"), remove(3))
		flush(t, x, 1)
		ok(t, x, keep(1))
		// It does not know that 3 is a member again: so that one is none, and is not waited for.
		ok(t, x, add(3), send(1), create(3, 0, "b"), fuse(1, 0))
		does(t, x, api.ErrOff, create(1, 0, "c"))
		calm(t, x, true)
		has(t, x, 1, 4)
		has(t, x, 2, 6)
		has(t, x, 3, 2)
		ok(t, x, start(1))
		calm(t, x, false)
		has(t, x, 1, 6)
	})
}

// Nothing is twisted: that is left to the next step.
func TestCalmTwistsNothing(t *testing.T) {
	both(t, func(t *testing.T, ideal bool) {
		x := many(3)(t, ideal)
		ok(t, x, create(2, 0, "a"), twist(1, 2), twist(2, 2))
		calm(t, x, true)
		equal(t, x, 1, 2)
		ok(t, x, create(1, 0, "b"), create(1, 0, "c"), twist(1, 0))
		calm(t, x, true)
		ok(t, x, create(2, 0, "d"), send(2))
		does(t, x, api.OK, fetch(1, 9))
		has(t, x, 1, x.Last()-1)
		ok(t, x, fetch(1, 9))
		has(t, x, 1, x.Last())
	})
}

// Behind steps of each kind.
func TestCalmBehindEachStep(t *testing.T) {
	both(t, func(t *testing.T, ideal bool) {
		steps := []api.Step{create(2, 0, "a"), send(2), fetch(2, 1), keep(1), join(2), add(3), remove(2), rotate(), fuse(2, -1), fuse(2, 9999), start(2), twist(2, 2), {}, send(7)}
		for _, s := range steps {
			x := grouped(t, 2, ideal)
			ok(t, x, create(1, 0, "b"), create(2, 0, "c"), send(1), create(1, 0, "d"))
			x.Step(s)
			calm(t, x, true)
			if s.Kind != api.StepRemove {
				equal(t, x, 1, 2)
			}
		}
	})
}
