package sim

import (
	"fmt"
	"math"
	"math/rand"
	"reflect"
	"slices"
	"strings"
	"testing"

	"samphire/api"
	"samphire/relay"
	"samphire/wire"
)

// Si2, but for how answers are twisted.

// kinds are all that there are.
var kinds = []int{api.StepEdit, api.StepSend, api.StepFetch, api.StepKeep, api.StepJoin, api.StepAdd, api.StepRemove, api.StepRotate, api.StepFuse, api.StepStart, api.StepTwist}

// step is one of a kind, with all that it might ask for.
func step(kind, at int) api.Step {
	return api.Step{Kind: kind, At: at, N: 1, Op: api.OpCreate, Name: "a"}
}

func TestStepsOfNoKind(t *testing.T) {
	both(t, func(t *testing.T, ideal bool) {
		x := grouped(t, 2, ideal)
		for _, kind := range []int{math.MinInt, -1, 0, 12, 13, 99, math.MaxInt} {
			for _, at := range []int{0, 1, 2, 3} {
				refused(t, x, api.ErrArg, step(kind, at))
			}
		}
	})
}

func TestStepsOfNoClient(t *testing.T) {
	for clients := 1; clients <= 6; clients++ {
		x := grouped(t, clients, true)
		for _, kind := range kinds {
			for _, at := range []int{math.MinInt, -1, 0, clients + 1, 6, 7, math.MaxInt} {
				if kind == api.StepRotate || at >= 1 && at <= clients || (kind == api.StepAdd || kind == api.StepRemove) && at >= 1 && at <= 6 {
					continue
				}
				refused(t, x, api.ErrArg, step(kind, at))
			}
		}
	}
}

// The admin adds and removes any of six, and rotates, whoever the step names.
func TestStepsOfTheAdmin(t *testing.T) {
	both(t, func(t *testing.T, ideal bool) {
		x := grouped(t, 2, ideal)
		var want []api.Record
		for who := 1; who <= 6; who++ {
			ok(t, x, add(who), remove(who))
			want = append(want, api.Record{Kind: api.RecAdd, Who: who}, api.Record{Kind: api.RecRemove, Who: who})
		}
		for _, at := range []int{math.MinInt, -1, 0, 1, 2, 3, 6, 7, math.MaxInt} {
			ok(t, x, api.Step{Kind: api.StepRotate, At: at})
			want = append(want, api.Record{Kind: api.RecRotate})
		}
		if x.Waits(1) != len(want) || x.Waits(2) != 0 || len(x.Issued()) != 0 {
			t.Fatal(x.Waits(1))
		}
		flush(t, x, 1)
		for k, i := range x.Accepted(1)[1:] {
			r, _ := x.Opened(i)
			if r.Kind != want[k].Kind || r.Who != want[k].Who || r.From != 1 || r.Count != k+2 {
				t.Errorf("%d: %s", k, short(r))
			}
		}
		// 2 was added when it was one already, then removed; of the others each was added and removed; and nine rotations.
		if g := x.Group(1); g.Epoch != 2+1+8+9 || g.Members[1].In || g.Members[5].In {
			t.Error(g)
		}
	})
}

func TestStepsOfTheAdminThatItRefuses(t *testing.T) {
	both(t, func(t *testing.T, ideal bool) {
		x := grouped(t, 2, ideal)
		for range 32 {
			ok(t, x, rotate())
		}
		refused(t, x, api.ErrFull, add(3), remove(2), rotate(), create(1, 0, "a"))
		ok(t, x, create(2, 0, "a"), send(2), twist(1, 2))
		does(t, x, api.ErrTampered, fetch(1, 9))
		refused(t, x, api.ErrTampered, add(3), remove(2), rotate(), create(1, 0, "a"), send(1), fetch(1, 9), keep(1), join(1))
		refused(t, x, api.ErrArg, add(7), remove(0), api.Step{Kind: api.StepAdd, At: -1})
	})
}

func TestNoMoreThanMaxSteps(t *testing.T) {
	x := simOf(t, 2, true)
	ok(t, x, create(1, 0, "a"), add(2), send(1), fetch(1, 9))
	many := x.Steps()
	for _, s := range []api.Step{{}, create(1, 9, "a/b"), send(3), fetch(1, -1), join(2), {Kind: 99}} {
		x.Step(s)
		if many++; x.Steps() != many {
			t.Fatalf("%s does not count", short(s))
		}
	}
	for many < maxSteps {
		s := []api.Step{{}, twist(2, 1), send(2), start(7), fuse(2, -1)}[many%5]
		if e := x.Step(s); e == api.ErrFull {
			t.Fatalf("full behind %d", many)
		}
		many++
	}
	if x.Steps() != maxSteps {
		t.Fatal(x.Steps())
	}
	var l []api.Step
	for _, kind := range append(kinds, 0, 12, -1) {
		l = append(l, step(kind, 1), step(kind, 2), step(kind, 7))
	}
	view := x.View()
	unchanged(t, "full", x, func() { does(t, x, api.ErrFull, l...) })
	if x.Steps() != maxSteps || !slices.Equal(x.View(), view) {
		t.Error("it has gone on", x.Steps())
	}
	// What is no step is done yet.
	if !x.Calm() || x.Waits(1) != 0 || x.Steps() != maxSteps {
		t.Error("it is not calm")
	}
}

func TestWithoutPower(t *testing.T) {
	both(t, func(t *testing.T, ideal bool) {
		x := grouped(t, 3, ideal)
		ok(t, x, create(2, 0, "a"), send(2), create(2, 0, "b"))
		flush(t, x, 1)
		ok(t, x, fuse(2, 0))
		if !x.Runs(2) {
			t.Error("it goes off ahead of a write")
		}
		does(t, x, api.ErrOff, fetch(2, 9))
		if x.Runs(2) {
			t.Error("it runs yet")
		}
		refused(t, x, api.ErrOff, create(2, 0, "a"), set(2, 0, "v"), api.Step{Kind: api.StepEdit, At: 2, Op: 9}, send(2), fetch(2, 9), fetch(2, -1), keep(2), join(2), fuse(2, 9), fuse(2, -1))
		refused(t, x, api.ErrArg, step(0, 2), add(0), remove(7), send(4))
		// The others run.
		ok(t, x, add(2), remove(4), rotate(), create(1, 0, "c"), create(3, 0, "d"), fetch(3, 9))
		ok(t, x, twist(2, 2), twist(2, 0), start(2))
		if !x.Runs(2) {
			t.Error("it does not run")
		}
		has(t, x, 2, 2)
		ok(t, x, fetch(2, 9))
		has(t, x, 2, 2)
		ok(t, x, fetch(2, 9))
		has(t, x, 2, 3)

		ok(t, x, fuse(1, 0))
		does(t, x, api.ErrOff, rotate())
		refused(t, x, api.ErrOff, add(2), add(1), remove(6), rotate(), api.Step{Kind: api.StepRotate, At: 2}, api.Step{Kind: api.StepRotate, At: 9}, create(1, 0, "e"), send(1), keep(1))
		refused(t, x, api.ErrArg, add(0), add(7), remove(0), remove(7))
		ok(t, x, create(2, 0, "f"), twist(1, 9), start(1), rotate())
	})
}

// A client that has not joined, or that is tampered, and has no power, is without power alone.
func TestWithoutPowerAheadOfWhatTheClientRefuses(t *testing.T) {
	x := grouped(t, 3, true)
	ok(t, x, remove(3), create(2, 0, "a"), send(2), twist(3, 2))
	does(t, x, api.ErrTampered, fetch(3, 9))
	refused(t, x, api.ErrTampered, create(3, 0, "a"), send(3), fetch(3, 9), fetch(3, -1), keep(3), join(3))
	ok(t, x, fuse(3, 0), fuse(2, 0))
	does(t, x, api.ErrOff, fetch(2, 9))
	if x.Runs(2) || !x.Runs(3) {
		t.Fatal("not 2 alone is without power")
	}
	refused(t, x, api.ErrOff, create(2, 0, "a"), keep(2))
	ok(t, x, start(3), start(2))
	if !x.Tampered(3) || x.Tampered(2) {
		t.Error("3 alone is tampered")
	}
}

// edited is the operation that came of a step.
func edited(t *testing.T, x *Sim, s api.Step) api.Op {
	t.Helper()
	was := len(x.Issued())
	ok(t, x, s)
	l := x.Issued()
	if len(l) != was+1 {
		t.Fatalf("%s: nothing was issued", short(s))
	}
	return l[was]
}

// filled is a simulation in which 1 and 2 show three nodes, by their numbers 1 of 1, 1 of 2, 2 of 1.
func filled(t *testing.T, ideal bool) (*Sim, []api.Stamp) {
	t.Helper()
	x := grouped(t, 2, ideal)
	ok(t, x, create(1, 0, "a"), create(1, 0, "c"), create(2, 0, "b"))
	flush(t, x, 2)
	flush(t, x, 1)
	ok(t, x, fetch(2, 9))
	l := []api.Stamp{{}, {Time: 1, Who: 1}, {Time: 1, Who: 2}, {Time: 2, Who: 1}}
	for who := 1; who <= 2; who++ {
		for k, n := range x.Nodes(who) {
			if n.Id != l[k+1] {
				t.Fatal(n)
			}
		}
	}
	return x, l
}

// What an operation of its kind does not have is not taken from the step.
func TestEditOfEachKind(t *testing.T) {
	both(t, func(t *testing.T, ideal bool) {
		_, l := filled(t, ideal)
		for at, node := range append(l, l[0], l[1], l[2], l[3], l[0]) {
			if node == (api.Stamp{}) {
				node = api.Stamp{Time: 1, Who: 1}
			}
			for into, parent := range append(l, l[0], l[1]) {
				x, _ := filled(t, ideal)
				all := api.Step{Kind: api.StepEdit, At: 1, N: 7, Node: at, Into: into, Name: "n", Value: "v", Text: "t"}
				for kind := api.OpCreate; kind <= api.OpTrash; kind++ {
					all.Op = kind
					stamp := api.Stamp{Time: 2 + kind, Who: 1}
					want := map[int]api.Op{
						api.OpCreate: {Node: stamp, Parent: parent, Name: "n"},
						api.OpMove:   {Node: node, Parent: parent},
						api.OpRename: {Node: node, Name: "n"},
						api.OpSet:    {Node: node, Value: "v"},
						api.OpTrash:  {Node: node},
					}[kind]
					want.Kind, want.At = kind, stamp
					if o := edited(t, x, all); o != want {
						t.Fatalf("%s: %s, not %s", short(all), short(o), short(want))
					}
				}
			}
		}
	})
}

// Places below 0 count from behind.
func TestPlaces(t *testing.T) {
	x, l := filled(t, true)
	for place := -9; place <= 13; place++ {
		k := ((place % 4) + 4) % 4
		o := edited(t, x, move(2, 1, place))
		if o.Parent != l[k] {
			t.Errorf("Into %d: %v", place, o.Parent)
		}
		want := l[k]
		if k == 0 {
			want = api.Stamp{Time: 1, Who: 1}
		}
		if o := edited(t, x, rename(2, place, "x")); o.Node != want {
			t.Errorf("Node %d: %v", place, o.Node)
		}
		if x.Waits(2) > 28 {
			x, _ = filled(t, true)
		}
	}
	for _, place := range []int{math.MinInt, math.MinInt + 1, math.MaxInt - 1, math.MaxInt} {
		k := (place%4 + 4) % 4
		if o := edited(t, x, create(2, place, "y")); o.Parent != l[k] {
			t.Errorf("Into %d: %v", place, o.Parent)
		}
	}
}

// Who shows no nodes has the root alone, and each client its own ones.
func TestPlacesAreOfTheClient(t *testing.T) {
	x := grouped(t, 2, true)
	for _, place := range []int{0, 1, 2, -1, 9} {
		if o := edited(t, x, create(2, place, "a")); o.Parent != (api.Stamp{}) {
			t.Error(o)
		}
		if o := edited(t, x, trash(2, place)); o.Node != (api.Stamp{Time: 1, Who: 1}) {
			t.Error(o)
		}
	}
	// What waits is not shown yet; what was accepted is.
	ok(t, x, send(2), fetch(2, 9))
	first := api.Stamp{Time: 1, Who: 2}
	if o := edited(t, x, create(2, 1, "b")); o.Parent != first {
		t.Error(o)
	}
	if o := edited(t, x, create(1, 1, "c")); o.Parent != (api.Stamp{}) {
		t.Error(o)
	}
	ok(t, x, fetch(1, 9))
	if o := edited(t, x, create(1, 1, "c")); o.Parent != first {
		t.Error(o)
	}
	// A node in the trash has its place, too.
	ok(t, x, send(2), fetch(2, 9))
	if l := x.Nodes(2); len(l) != 1 || l[0].Parent != (api.Stamp{Who: 1}) && l[0].Parent != (api.Stamp{}) {
		t.Fatal(l)
	}
	if o := edited(t, x, set(2, 1, "v")); o.Node != first {
		t.Error(o)
	}
}

func TestEditThatTheClientRefuses(t *testing.T) {
	both(t, func(t *testing.T, ideal bool) {
		x := simOf(t, 2, ideal)
		refused(t, x, api.ErrWait, create(2, 0, "a"), trash(2, 0), create(2, 0, ""), api.Step{Kind: api.StepEdit, At: 2, Op: 9})
		refused(t, x, api.ErrArg, create(1, 0, ""), create(1, 0, "a/b"), create(1, 0, strings.Repeat("n", 33)), rename(1, 1, " a"), set(1, 0, strings.Repeat("v", 65)))
		for _, op := range []int{math.MinInt, -1, 0, 6, 7, math.MaxInt} {
			refused(t, x, api.ErrArg, api.Step{Kind: api.StepEdit, At: 1, Op: op, Name: "a", Value: "v"})
		}
		ok(t, x, set(1, 0, strings.Repeat("v", 64)), create(1, 0, strings.Repeat("é", 32)), set(1, 0, ""))
		for range 29 {
			ok(t, x, trash(1, 0))
		}
		refused(t, x, api.ErrFull, trash(1, 0), create(1, 0, ""))
	})
}

func TestSend(t *testing.T) {
	both(t, func(t *testing.T, ideal bool) {
		x := grouped(t, 3, ideal)
		refused(t, x, api.ErrNone, send(1), send(2))
		ok(t, x, create(2, 0, "a"), create(2, 0, "b"), send(2))
		in, out := lastSeen(t, x)
		if in.Kind != api.FrameAppend || out.Kind != api.FrameTaken || out.Seq != 3 || x.Last() != 3 || x.Waits(2) != 2 {
			t.Error(short(in), short(out))
		}
		refused(t, x, api.ErrWait, send(2))
		// It waits no more once it was fetched.
		ok(t, x, fetch(2, 9))
		if x.Waits(2) != 1 || len(x.Nodes(2)) != 1 {
			t.Error(x.Waits(2))
		}
		ok(t, x, send(2))
		if x.Last() != 4 {
			t.Error(x.Last())
		}
		y := simOf(t, 2, ideal)
		refused(t, y, api.ErrWait, send(2))
	})
}

// What Hear says of the answer: its error.
func TestAnswersThatRefuse(t *testing.T) {
	both(t, func(t *testing.T, ideal bool) {
		x, _ := New(api.Config{Clients: 2, Ideal: ideal, Quota: 400})
		does(t, x, api.ErrNone, join(1), join(2), join(2))
		ok(t, x, create(1, 0, "a"), create(1, 0, "b"), send(1))
		ok(t, x, fetch(1, 9), send(1), fetch(1, 9), create(1, 0, "c"))
		does(t, x, api.ErrQuota, send(1))
		refused(t, x, api.ErrWait, send(1))
		has(t, x, 1, 2)
		does(t, x, api.ErrQuota, keep(1))
		if _, out := lastSeen(t, x); out.Kind != api.FrameError || out.Err != api.ErrQuota {
			t.Error(short(out))
		}
		// It is sent again behind an answer without records.
		ok(t, x, fetch(1, 9))
		does(t, x, api.ErrQuota, send(1))
		if x.Waits(1) != 1 || x.Last() != 2 {
			t.Error(x.Waits(1), x.Last())
		}
		y := grouped(t, 2, ideal)
		does(t, y, api.ErrArg, keep(1))
		ok(t, y, create(1, 0, "a"))
		flush(t, y, 1)
		ok(t, y, keep(1))
		does(t, y, api.ErrGone, fetch(2, 9))
		ok(t, y, join(2))
		ok(t, y, fetch(2, 9))
	})
}

func TestFetch(t *testing.T) {
	both(t, func(t *testing.T, ideal bool) {
		x := grouped(t, 2, ideal)
		for k := range 12 {
			ok(t, x, create(1, 0, fmt.Sprint(k)))
		}
		flush(t, x, 1)
		refused(t, x, api.ErrArg, fetch(2, -1), fetch(2, math.MinInt), fetch(2, maxTime+1), fetch(2, math.MaxInt))
		many := 1
		for _, n := range []int{0, 1, 2, 0, 5, maxTime} {
			ok(t, x, fetch(2, n))
			in, out := lastSeen(t, x)
			if in.Kind != api.FrameFetch || in.Seq != many+1 || in.Max != n || out.Kind != api.FrameGiven || len(out.Items) != min(n, 13-many) {
				t.Error(short(in), short(out))
			}
			many = min(many+n, 13)
			has(t, x, 2, many)
			if len(x.Nodes(2)) != many-1 {
				t.Error(x.Nodes(2))
			}
		}
		y := simOf(t, 2, ideal)
		refused(t, y, api.ErrWait, fetch(2, 9))
	})
}

func TestKeepAndJoin(t *testing.T) {
	both(t, func(t *testing.T, ideal bool) {
		x := simOf(t, 3, ideal)
		refused(t, x, api.ErrNone, keep(1))
		refused(t, x, api.ErrWait, keep(2))
		ok(t, x, create(1, 0, "a"), add(2))
		flush(t, x, 1)
		does(t, x, api.ErrNone, join(2))
		ok(t, x, keep(1))
		in, out := lastSeen(t, x)
		if in.Kind != api.FrameKeep || in.Seq != 2 || in.Epoch != 2 || out.Kind != api.FrameKept || out.Seq != 2 {
			t.Error(short(in), short(out))
		}
		ok(t, x, join(2), join(1))
		refused(t, x, api.ErrMember, keep(2))
		has(t, x, 2, 2)
		if !x.Joined(2) || len(x.Nodes(2)) != 1 {
			t.Error("2 has not joined")
		}
		does(t, x, api.ErrSeal, join(3))
		if x.Joined(3) {
			t.Error("3 has joined")
		}
		// A member that has nothing joins by it, and the admin by none of its own.
		has(t, x, 1, 2)
	})
}

// Wherever the power goes off: the client is as ahead of the step, or as behind it, and whole when it is opened anew.
func TestFuseAtEachWrite(t *testing.T) {
	both(t, func(t *testing.T, ideal bool) {
		made := func() *Sim {
			x := grouped(t, 2, ideal)
			ok(t, x, create(1, 0, "a"), create(1, 0, "b"), create(2, 0, "c"), create(2, 0, "d"))
			flush(t, x, 1)
			return x
		}
		for k, s := range []api.Step{create(2, 0, "e"), send(2), fetch(2, 9), fetch(2, 1)} {
			whole := made()
			ok(t, whole, s)
			writes := 0
			for n := 0; ; n++ {
				x := made()
				was := tell(x).Clients
				ok(t, x, fuse(2, n))
				e := x.Step(s)
				if e == api.OK {
					if x.Runs(2) != true || !reflect.DeepEqual(tell(x), tell(whole)) {
						t.Fatalf("%d, %d: it is not as without a fuse", k, n)
					}
					break
				}
				if e != api.ErrOff || x.Runs(2) {
					t.Fatalf("%d, %d: %d", k, n, e)
				}
				does(t, x, api.ErrOff, fetch(2, 9), s)
				ok(t, x, start(2))
				is := tell(x).Clients
				if !x.Runs(2) || !reflect.DeepEqual(is, was) && !reflect.DeepEqual(is, tell(whole).Clients) {
					t.Fatalf("%d, %d: neither as ahead, nor as behind", k, n)
				}
				ok(t, x, fetch(2, 9), create(2, 0, "f"))
				if !x.Calm() || !slices.Equal(x.Nodes(1), x.Nodes(2)) {
					t.Fatalf("%d, %d: it does not go on", k, n)
				}
				writes++
			}
			if writes < 5 {
				t.Errorf("%d: only %d writes", k, writes)
			}
		}
	})
}

// A client may be as behind what it heard when the power went off: its device is laid so here, by hand.
func TestOpenedAsBehind(t *testing.T) {
	both(t, func(t *testing.T, ideal bool) {
		made := func() *Sim {
			x := grouped(t, 3, ideal)
			ok(t, x, create(1, 0, "a"), create(1, 0, "b"), create(1, 0, "c"))
			flush(t, x, 1)
			return x
		}
		lay := func(x, y *Sim) {
			t.Helper()
			x.parties[1].device.On()
			for k := range 1100 {
				s, _ := y.parties[1].device.Read(k)
				if e := x.parties[1].device.Write(k, s); e != api.OK {
					t.Fatal(e)
				}
			}
			ok(t, x, start(2))
		}
		for _, s := range []api.Step{fetch(2, 2), join(2)} {
			x, y := made(), made()
			if s.Kind == api.StepJoin {
				ok(t, x, keep(1))
				ok(t, y, keep(1))
			}
			ok(t, y, s)
			ok(t, x, fuse(2, 0))
			does(t, x, api.ErrOff, s)
			has(t, x, 2, 2)
			lay(x, y)
			if !reflect.DeepEqual(tell(x), tell(y)) {
				t.Error("it is not as behind")
			}
			ok(t, x, fetch(2, 9))
			equal(t, x, 1, 2)
		}
	})
}

func TestFuse(t *testing.T) {
	x := grouped(t, 2, true)
	// It is of that client's device alone.
	ok(t, x, fuse(2, 0), create(1, 0, "a"))
	does(t, x, api.ErrOff, create(2, 0, "a"))
	// Below 0 there is none; another one takes its place.
	ok(t, x, start(2), fuse(2, 0), fuse(2, -1), create(2, 0, "a"), fuse(2, 0), fuse(2, math.MinInt), create(2, 0, "b"), fuse(2, 0), fuse(2, 1000), create(2, 0, "c"))
	// With the power on again, there is none.
	ok(t, x, fuse(2, 0), start(2), create(2, 0, "d"))
	if x.Waits(2) != 4 {
		t.Error(x.Waits(2))
	}
	// What writes nothing burns none.
	ok(t, x, fuse(1, 0), fetch(1, 9), join(1))
	does(t, x, api.ErrOff, create(1, 0, "b"))
	// What was written counts: it is just that many.
	y := grouped(t, 1, true)
	d := y.parties[0].device
	was := d.Writes()
	ok(t, y, create(1, 0, "a"))
	many := d.Writes() - was
	for n := range many + 1 {
		y := grouped(t, 1, true)
		d := y.parties[0].device
		was := d.Writes()
		ok(t, y, fuse(1, n))
		does(t, y, map[bool]api.Errno{true: api.OK, false: api.ErrOff}[n == many], create(1, 0, "a"))
		if d.Writes()-was != n {
			t.Errorf("fuse %d: %d were written", n, d.Writes()-was)
		}
	}
}

// To be opened anew, with the power on or off, changes nothing: not what waits, nor what was accepted.
func TestStart(t *testing.T) {
	both(t, func(t *testing.T, ideal bool) {
		x := grouped(t, 3, ideal)
		ok(t, x, create(2, 0, "a"), send(2), create(1, 0, "b"), rotate(), remove(3))
		flush(t, x, 1)
		ok(t, x, fetch(3, 9), twist(2, 2))
		does(t, x, api.ErrTampered, fetch(2, 9))
		for who := 1; who <= 3; who++ {
			unchanged(t, fmt.Sprint(who), x, func() { ok(t, x, start(who), start(who)) })
			is := x.parties[who-1].client
			ok(t, x, start(who))
			if x.parties[who-1].client == is {
				t.Error("it was not opened anew")
			}
		}
		y := simOf(t, 2, ideal)
		unchanged(t, "new ones", y, func() { ok(t, y, start(1), start(2)) })
		ok(t, y, create(1, 0, "a"))
	})
}

// Drawn steps, held against a simulation by hand.
func TestDrawnSteps(t *testing.T) {
	for seed := range int64(24) {
		draw := rand.New(rand.NewSource(2300 + seed))
		c := api.Config{Clients: 1 + int(seed)%6, Ideal: seed%2 == 0, Quota: maxQuota}
		if seed%4 == 3 {
			c.Quota = 3000
		}
		x, _ := New(c)
		h := handOf(c)
		for n := range 250 {
			s := drawnStep(draw, c.Clients)
			if draw.Intn(12) == 0 {
				s.At, s.N, s.Node, s.Into = draw.Intn(9)-1, draw.Intn(99)-9, draw.Intn(99)-9, draw.Intn(99)-9
			}
			if draw.Intn(40) == 0 {
				s.Kind = draw.Intn(14) - 1
			}
			if draw.Intn(12) == 0 {
				s = api.Step{Kind: api.StepTwist, At: 1 + draw.Intn(c.Clients), N: draw.Intn(30) - 10, Text: drawnText(draw, x)}
			}
			if e, want := x.Step(s), h.Step(s); e != want {
				t.Fatalf("seed %d: step %d: %s: %d, not %d", seed, n, short(s), e, want)
			}
			if draw.Intn(60) == 0 {
				if is, want := x.Calm(), h.Calm(); is != want {
					t.Fatalf("seed %d: step %d: Calm: %t, not %t", seed, n, is, want)
				}
			}
			if n%10 == 0 {
				same(t, fmt.Sprintf("seed %d: step %d: %s", seed, n, short(s)), x, h)
			}
		}
		is, want := x.Calm(), h.Calm()
		if is != want {
			t.Fatalf("seed %d: Calm: %t, not %t", seed, is, want)
		}
		same(t, fmt.Sprintf("seed %d, calm", seed), x, h)
		t.Log(seed, is, x.Last(), len(x.View()))
	}
}

// drawnText is what may be heard in place of an answer: another answer, or no frame at all.
func drawnText(draw *rand.Rand, x *Sim) string {
	l := x.View()
	if len(l) == 0 || draw.Intn(8) == 0 {
		return "junk"
	}
	s := l[draw.Intn(len(l))]
	return []string{s.In, s.Out, s.Out, s.Out}[draw.Intn(4)]
}

// The same settings and steps lead to the same; and steps that are refused, or only asked about, to nothing else.
func TestTheSameAnswers(t *testing.T) {
	both(t, func(t *testing.T, ideal bool) {
		c := api.Config{Clients: 3, Ideal: ideal, Quota: maxQuota}
		x, _ := New(c)
		y, _ := New(c)
		draw := rand.New(rand.NewSource(7))
		for range 200 {
			s := drawnStep(draw, 3)
			a := x.Step(s)
			tell(x)
			x.View()
			if b := y.Step(s); a != b {
				t.Fatalf("%s: %d, %d", short(s), a, b)
			}
		}
		if x.Calm() != y.Calm() {
			t.Error("one of them alone is calm")
		}
		same(t, "the same steps", x, y)
	})
}

// What the relay answers is what layer 21's answers to the frames that were seen.
func TestTheRelayIsLayer21s(t *testing.T) {
	both(t, func(t *testing.T, ideal bool) {
		x, _ := New(api.Config{Clients: 3, Ideal: ideal, Quota: 5000})
		draw := rand.New(rand.NewSource(9))
		for range 200 {
			x.Step(drawnStep(draw, 3))
		}
		x.Calm()
		r, _ := relay.New(0, 5000)
		for k, s := range x.View() {
			if a := r.Hear(s.In); a != s.Out {
				t.Fatalf("%d: it was not answered so", k)
			}
			if f, e := wire.Take(s.In); e != api.OK || !slices.Contains([]int{api.FrameAppend, api.FrameFetch, api.FrameKeep, api.FrameAsk}, f.Kind) {
				t.Fatalf("%d: %s", k, short(f))
			}
		}
		if r.Last() != x.Last() {
			t.Error(r.Last(), x.Last())
		}
	})
}
