package sim

import (
	"fmt"
	"math"
	"reflect"
	"slices"
	"strings"
	"sync"
	"testing"

	"samphire/api"
	"samphire/group"
	"samphire/hkdf"
	"samphire/keys"
	"samphire/sha"
	"samphire/vault"
	"samphire/wire"
	"samphire/word"
)

// Si1, Si3.

func TestTheChaptersExample(t *testing.T) {
	both(t, func(t *testing.T, ideal bool) {
		x := simOf(t, 1, ideal)
		ok(t, x, create(1, 0, "a"), send(1), fetch(1, 9))
		has(t, x, 1, 1)
		want := []api.Node{{Id: api.Stamp{Time: 1, Who: 1}, Name: "a"}}
		if l := x.Nodes(1); !slices.Equal(l, want) || x.Last() != 1 || x.Steps() != 3 || !x.Calm() {
			t.Error(l, x.Last(), x.Steps())
		}
	})
}

func TestNewOfWhatMayNotBe(t *testing.T) {
	for _, ideal := range []bool{true, false} {
		for _, clients := range []int{math.MinInt, -1, 0, 1, 2, 6, 7, math.MaxInt} {
			for _, quota := range []int{math.MinInt, -1, 0, 1, maxQuota, maxQuota + 1, math.MaxInt} {
				x, e := New(api.Config{Clients: clients, Ideal: ideal, Quota: quota})
				if good := clients >= 1 && clients <= 6 && quota >= 0 && quota <= maxQuota; good != (e == api.OK) || good != (x != nil) || !good && e != api.ErrArg {
					t.Errorf("New of %d, %d: %d", clients, quota, e)
				}
			}
		}
	}
}

func TestNewHasClientsAndNothingElse(t *testing.T) {
	for clients := 1; clients <= 6; clients++ {
		x := simOf(t, clients, clients%2 == 0)
		if x.Steps() != 0 || x.Last() != 0 || len(x.View()) != 0 || len(x.Issued()) != 0 {
			t.Errorf("of %d: something was done", clients)
		}
		for who := 1; who <= clients; who++ {
			n, chain := x.Chain(who)
			if n != 0 || chain != sha.Sum("samphire") || len(x.Accepted(who)) != 0 || len(x.Nodes(who)) != 0 || x.Waits(who) != 0 || !x.Runs(who) || x.Tampered(who) {
				t.Errorf("%d of %d is not as at first", who, clients)
			}
			var g api.Group
			var epochs []int
			if who == 1 {
				g, epochs = group.New(), []int{1}
			}
			if x.Joined(who) != (who == 1) || !reflect.DeepEqual(x.Group(who), g) || !slices.Equal(x.Epochs(who), epochs) {
				t.Errorf("%d of %d: %v, %v", who, clients, x.Group(who), x.Epochs(who))
			}
			if n := x.parties[who-1].device.Size(); n != 1100 {
				t.Errorf("a device of %d blocks", n)
			}
		}
		if x.Runs(0) || x.Runs(clients+1) || x.Joined(clients+1) {
			t.Errorf("of %d: there are more", clients)
		}
		same(t, "at first", x, handOf(api.Config{Clients: clients, Ideal: clients%2 == 0, Quota: maxQuota}))
	}
}

// The own keys are those of the chapter: so wraps are opened by them.
func TestOwnKeys(t *testing.T) {
	both(t, func(t *testing.T, ideal bool) {
		x := grouped(t, 6, ideal)
		l := x.Accepted(6)
		r, found := x.Opened(l[len(l)-1])
		if !found || r.Kind != api.RecAdd || r.Who != 6 || len(r.Wraps) != 6 {
			t.Fatal(short(r))
		}
		for k, w := range r.Wraps {
			s, e := keys.Unwrap(fresh("own", k+1), k+1, 6, w.Text)
			if w.Who != k+1 || e != api.OK || s != fresh(fresh("own", 1), 6) {
				t.Errorf("the wrap of %d: %d", w.Who, e)
			}
		}
	})
}

// Ideal seals are drawn, of the seed "sim", by one sealer for all; real ones are layer 7's.
func TestSeals(t *testing.T) {
	x := simOf(t, 2, true)
	ok(t, x, create(1, 0, "a"), send(1))
	f, _ := lastSeen(t, x)
	drawn := ""
	for k := range 8 {
		s, _ := hkdf.Derive("vault", "sim", word.PutBig([]int{0, k}), 32)
		drawn += s
	}
	if f.Blob != drawn[:128+16] {
		t.Errorf("%x is not what is drawn", f.Blob)
	}
	x = grouped(t, 2, true)
	ok(t, x, create(2, 0, "a"), send(2), fetch(1, 9))
	if len(x.Nodes(1)) != 1 {
		t.Error("they have not one sealer")
	}
	y := simOf(t, 1, false)
	ok(t, y, create(1, 0, "a"), send(1))
	f, _ = lastSeen(t, y)
	key, _ := keys.Send(fresh(fresh("own", 1), 1), 1)
	nonce, _ := keys.Nonce(1, 1)
	if s, e := vault.Real().Open(key, nonce, "record", f.Blob); e != api.OK || len(s) != 128 {
		t.Error("it was not sealed by layer 7:", e)
	}
}

// What it has no room for is refused by the relay, which is of the group 0.
func TestQuotaAndGroup(t *testing.T) {
	both(t, func(t *testing.T, ideal bool) {
		for quota, want := range map[int]api.Errno{0: api.ErrQuota, 143: api.ErrQuota, 144: api.OK} {
			x, _ := New(api.Config{Clients: 1, Ideal: ideal, Quota: quota})
			ok(t, x, create(1, 0, "a"))
			does(t, x, want, send(1))
			in, out := lastSeen(t, x)
			if in.Kind != api.FrameAppend || in.Group != 0 || out.Group != 0 || (want == api.OK) != (x.Last() == 1) || (want == api.OK) != (out.Kind == api.FrameTaken) {
				t.Error(quota, short(in), short(out))
			}
			if x.Calm() != (want == api.OK) {
				t.Error("calm:", quota)
			}
		}
	})
}

func TestEachClientTellsItsOwn(t *testing.T) {
	both(t, func(t *testing.T, ideal bool) {
		x := simOf(t, 4, ideal)
		ok(t, x, add(2), add(3))
		flush(t, x, 1)
		ok(t, x, keep(1), join(2), create(2, 0, "a"), send(2), fetch(2, 9), create(2, 1, "b"), twist(3, 6), fuse(4, 0), create(1, 0, "c"))
		does(t, x, api.ErrSeal, join(3))
		does(t, x, api.ErrWait, create(4, 0, "d"))
		ok(t, x, join(3))
		n1, c1 := x.Chain(1)
		n2, c2 := x.Chain(2)
		n3, c3 := x.Chain(3)
		n4, c4 := x.Chain(4)
		if n1 != 2 || n2 != 3 || n3 != 2 || n4 != 0 || c1 != c3 || c1 == c2 || c4 != sha.Sum("samphire") {
			t.Error("Chain:", n1, n2, n3, n4)
		}
		nodes := []api.Node{{Id: api.Stamp{Time: 1, Who: 2}, Name: "a"}}
		if len(x.Nodes(1)) != 0 || !slices.Equal(x.Nodes(2), nodes) || len(x.Nodes(3)) != 0 || len(x.Nodes(4)) != 0 {
			t.Error("Nodes:", x.Nodes(1), x.Nodes(2))
		}
		if x.Waits(1) != 1 || x.Waits(2) != 1 || x.Waits(3) != 0 || x.Waits(4) != 0 {
			t.Error("Waits:", x.Waits(1), x.Waits(2))
		}
		if x.Group(1).Ops != 0 || x.Group(2).Ops != 1 || x.Group(3).Epoch != 3 || x.Group(4).Epoch != 0 {
			t.Error("Group:", x.Group(1), x.Group(2))
		}
		if !slices.Equal(x.Epochs(1), []int{2, 3}) || !slices.Equal(x.Epochs(2), []int{2, 3}) || !slices.Equal(x.Epochs(3), []int{2, 3}) || len(x.Epochs(4)) != 0 {
			t.Error("Epochs:", x.Epochs(1), x.Epochs(2))
		}
		if !x.Joined(1) || !x.Joined(2) || !x.Joined(3) || x.Joined(4) {
			t.Error("Joined")
		}
		ok(t, x, twist(2, 2), send(2))
		does(t, x, api.ErrTampered, twisted(t, x, 3, 2, fetch(3, 9)))
		if x.Tampered(1) || x.Tampered(2) || !x.Tampered(3) || x.Tampered(4) {
			t.Error("Tampered")
		}
		ok(t, x, fuse(2, 0))
		does(t, x, api.ErrOff, create(2, 0, "e"))
		if !x.Runs(1) || x.Runs(2) || !x.Runs(3) || !x.Runs(4) {
			t.Error("Runs")
		}
		if x.Last() != 4 {
			t.Error("Last:", x.Last())
		}
	})
}

// twisted lets the next answer be twisted, and is the step behind that.
func twisted(t *testing.T, x *Sim, who, n int, s api.Step) api.Step {
	t.Helper()
	ok(t, x, twist(who, n))
	return s
}

func TestAcceptedIsWhatWasHeard(t *testing.T) {
	both(t, func(t *testing.T, ideal bool) {
		x := simOf(t, 2, ideal)
		var blobs []string
		for k := range 5 {
			ok(t, x, create(1, 0, fmt.Sprint(k)), send(1))
			f, _ := lastSeen(t, x)
			blobs = append(blobs, f.Blob)
			has(t, x, 1, k)
			ok(t, x, fetch(1, 9))
			has(t, x, 1, k+1)
		}
		for k, i := range x.Accepted(1) {
			if i != (api.Item{Seq: k + 1, Epoch: 1, Blob: blobs[k]}) {
				t.Error(k, short(i))
			}
		}
		if len(x.Accepted(2)) != 0 {
			t.Error("2 has accepted something")
		}
	})
}

// Up to a snapshot, it has what the admin had accepted; behind it, what it heard.
func TestAcceptedBehindASnapshot(t *testing.T) {
	both(t, func(t *testing.T, ideal bool) {
		x := simOf(t, 3, ideal)
		ok(t, x, create(1, 0, "a"), create(1, 0, "b"), add(2), add(3))
		flush(t, x, 1)
		ok(t, x, keep(1), join(2))
		has(t, x, 2, 4)
		if !slices.Equal(x.Accepted(2), x.Accepted(1)) {
			t.Error("2 has something else than the admin")
		}
		ok(t, x, create(2, 0, "c"))
		flush(t, x, 2)
		has(t, x, 1, 4)
		has(t, x, 2, 5)
		ok(t, x, create(1, 0, "d"))
		flush(t, x, 1)
		has(t, x, 1, 6)
		// Of what the admin has accepted since then, nothing is among what 3 joins by.
		ok(t, x, join(3))
		has(t, x, 3, 4)
		ok(t, x, fetch(3, 1))
		has(t, x, 3, 5)
		if !slices.Equal(x.Accepted(3), x.Accepted(2)) || !slices.Equal(x.Accepted(3), x.Accepted(1)[:5]) {
			t.Error("3 has something else")
		}
		// One that has accepted something already joins by a later snapshot.
		ok(t, x, keep(1))
		does(t, x, api.ErrGone, fetch(2, 9), fetch(3, 9))
		ok(t, x, join(2), join(3), join(1))
		for who := 1; who <= 3; who++ {
			has(t, x, who, 6)
			if !slices.Equal(x.Accepted(who), x.Accepted(1)) {
				t.Errorf("%d has something else", who)
			}
		}
		// A snapshot that tells it nothing new, or that it can't open, adds nothing.
		ok(t, x, create(2, 0, "e"))
		flush(t, x, 2)
		ok(t, x, join(2))
		has(t, x, 2, 7)
		ok(t, x, twist(3, 2))
		ok(t, x, join(3))
		has(t, x, 3, 6)
	})
}

// Items of a frame that is let be, or of one that is not accepted, are not among them.
func TestAcceptedWithoutWhatWasLetBe(t *testing.T) {
	both(t, func(t *testing.T, ideal bool) {
		x := grouped(t, 3, ideal)
		ok(t, x, create(1, 0, "a"), remove(3), create(1, 0, "b"))
		flush(t, x, 1)
		ok(t, x, fetch(3, 9))
		has(t, x, 3, 4)
		if x.Joined(3) || !slices.Equal(x.Accepted(3), x.Accepted(1)[:4]) {
			t.Error("3 has something else")
		}
		ok(t, x, twist(2, 3))
		does(t, x, api.ErrTampered, fetch(2, 9))
		has(t, x, 2, 2)
	})
}

func TestOpened(t *testing.T) {
	both(t, func(t *testing.T, ideal bool) {
		x := grouped(t, 2, ideal)
		ok(t, x, create(2, 0, "a"), send(2))
		f, _ := lastSeen(t, x)
		// It was sealed, whether it was accepted or not, and whatever number it has.
		for _, seq := range []int{3, 0, -7, 99} {
			r, found := x.Opened(api.Item{Seq: seq, Epoch: 2, Blob: f.Blob})
			n, chain := x.Chain(2)
			want := api.Record{Kind: api.RecOp, From: 2, Count: 1, Seq: n, Head: chain, Op: x.Issued()[0]}
			if !found || !reflect.DeepEqual(r, want) {
				t.Errorf("%d: %s", seq, short(r))
			}
		}
		none := []api.Item{{}, {Epoch: 2}, {Epoch: 1, Blob: f.Blob}, {Epoch: 3, Blob: f.Blob}, {Blob: f.Blob}, {Seq: 3, Epoch: 2, Blob: flipped(f.Blob)},
			{Epoch: 2, Blob: f.Blob[1:]}, {Epoch: 2, Blob: f.Blob + "\x00"}, {Epoch: 2, Blob: "nobody sealed this"}}
		for _, i := range none {
			if r, found := x.Opened(i); found || !reflect.DeepEqual(r, api.Record{}) {
				t.Errorf("%s: %s", short(i), short(r))
			}
		}
		// What is sent again is the same.
		does(t, x, api.ErrWait, send(2))
		ok(t, x, twistText(2, asBytes(t, api.Frame{Kind: api.FrameGiven})), fetch(2, 9), send(2))
		if g, _ := lastSeen(t, x); !reflect.DeepEqual(g, f) {
			t.Error("it was sealed otherwise")
		}
		// A snapshot is no record.
		ok(t, x, fetch(1, 9), keep(1))
		s, _ := lastSeen(t, x)
		if r, found := x.Opened(api.Item{Seq: s.Seq, Epoch: s.Epoch, Blob: s.Blob}); found || !reflect.DeepEqual(r, api.Record{}) {
			t.Error("a snapshot:", short(r))
		}
		// Records of the admin's have their wraps.
		ok(t, x, rotate(), send(1))
		g, _ := lastSeen(t, x)
		r, found := x.Opened(api.Item{Epoch: 2, Blob: g.Blob})
		if !found || r.Kind != api.RecRotate || r.From != 1 || len(r.Wraps) != 2 || wire.Check(r) != api.OK {
			t.Error(short(r))
		}
	})
}

// What is not sent was not sealed: there is nothing that could be opened.
func TestOpenedOfWhatWasSentAlone(t *testing.T) {
	both(t, func(t *testing.T, ideal bool) {
		x := grouped(t, 2, ideal)
		ok(t, x, create(2, 0, "a"), create(2, 0, "b"))
		if len(x.sealed) != 1 {
			t.Error("more than the addition was sealed:", len(x.sealed))
		}
		flush(t, x, 2)
		ok(t, x, fetch(1, 9))
		l := x.Accepted(1)
		for k, name := range []string{"a", "b"} {
			if r, found := x.Opened(l[k+1]); !found || r.From != 2 || r.Count != k+1 || r.Op.Name != name {
				t.Error(short(r))
			}
		}
		if len(x.sealed) != 3 {
			t.Error("not just what was sent was sealed:", len(x.sealed))
		}
		// And what is sealed while all is let calm, too.
		ok(t, x, create(2, 0, "c"))
		if !x.Calm() {
			t.Error("it is not calm")
		}
		if r, found := x.Opened(x.Accepted(1)[3]); !found || r.Op.Name != "c" {
			t.Error(short(r))
		}
	})
}

func TestIssued(t *testing.T) {
	both(t, func(t *testing.T, ideal bool) {
		x := grouped(t, 2, ideal)
		ok(t, x, create(1, 0, "a"), create(2, 0, "b"))
		refused(t, x, api.ErrArg, create(1, 0, "a/b"), rename(1, 0, ""), set(2, 0, strings.Repeat("v", 65)), api.Step{Kind: api.StepEdit, At: 1}, api.Step{Kind: api.StepEdit, At: 1, Op: 6})
		ok(t, x, send(1), fetch(1, 9), send(2), fetch(2, 9), set(2, 2, "v"))
		at := func(time, who int) api.Stamp { return api.Stamp{Time: time, Who: who} }
		want := []api.Op{
			{Kind: api.OpCreate, At: at(1, 1), Node: at(1, 1), Name: "a"},
			{Kind: api.OpCreate, At: at(1, 2), Node: at(1, 2), Name: "b"},
			{Kind: api.OpSet, At: at(2, 2), Node: at(1, 2), Value: "v"},
		}
		if l := x.Issued(); !slices.Equal(l, want) {
			t.Error(short(l))
		}
		// Neither what is refused for want of power, or of room.
		ok(t, x, fuse(2, 0))
		does(t, x, api.ErrOff, create(2, 0, "c"), create(2, 0, "d"))
		for range 32 {
			ok(t, x, trash(1, 1))
		}
		does(t, x, api.ErrFull, trash(1, 1))
		if l := x.Issued(); len(l) != 35 || !slices.Equal(l[:3], want) {
			t.Error(len(l))
		}
		// Records of the admin's are none; nor does it matter what becomes of operations.
		ok(t, x, start(2), remove2(t, x))
		if len(x.Issued()) != 35 {
			t.Error(len(x.Issued()))
		}
	})
}

// remove2 lets the admin have room, and is the step by which it removes 2.
func remove2(t *testing.T, x *Sim) api.Step {
	t.Helper()
	flush(t, x, 1)
	return remove(2)
}

func TestView(t *testing.T) {
	both(t, func(t *testing.T, ideal bool) {
		x := simOf(t, 2, ideal)
		kinds := func(want ...int) {
			t.Helper()
			in, out := framesOf(t, x.View())
			var l []int
			for k := range in {
				l = append(l, in[k].Kind, out[k].Kind)
			}
			if !slices.Equal(l, want) {
				t.Errorf("%v, not %v", l, want)
			}
		}
		kinds()
		ok(t, x, add(2))
		does(t, x, api.ErrNone, keep(1), join(1))
		want := []int{api.FrameAsk, api.FrameError}
		kinds(want...)
		ok(t, x, send(1))
		want = append(want, api.FrameAppend, api.FrameTaken)
		kinds(want...)
		// What is twisted is seen as it was answered.
		ok(t, x, twist(1, 0), fetch(1, 9))
		want = append(want, api.FrameFetch, api.FrameGiven)
		kinds(want...)
		does(t, x, api.ErrWire, twistedText(t, x, 1, "junk", fetch(1, 9)))
		want = append(want, api.FrameFetch, api.FrameGiven)
		kinds(want...)
		if l := x.View(); l[2] != l[3] || l[2].In != asBytes(t, api.Frame{Kind: api.FrameFetch, Seq: 1, Max: 9}) || l[0].Out != asBytes(t, api.Frame{Kind: api.FrameError, Err: api.ErrNone}) {
			t.Error(short(l))
		}
		ok(t, x, fetch(1, 9), keep(1), join(2))
		want = append(want, api.FrameFetch, api.FrameGiven, api.FrameKeep, api.FrameKept, api.FrameAsk, api.FrameSnap)
		kinds(want...)
		// What is refused ahead of a frame is not seen.
		does(t, x, api.ErrNone, send(1), send(2))
		does(t, x, api.ErrArg, fetch(1, -1), fetch(3, 1))
		does(t, x, api.ErrMember, keep(2))
		kinds(want...)
	})
}

func twistedText(t *testing.T, x *Sim, who int, text string, s api.Step) api.Step {
	t.Helper()
	ok(t, x, twistText(who, text))
	return s
}

// noSim holds that a simulation is none: nothing is told, and nothing done.
func noSim(t *testing.T, x *Sim) {
	t.Helper()
	for kind := -1; kind <= 13; kind++ {
		if e := x.Step(api.Step{Kind: kind, At: 1, N: 1, Op: 1, Name: "a"}); e != api.ErrArg {
			t.Errorf("Step of %d: %d", kind, e)
		}
	}
	for who := -1; who <= 8; who++ {
		n, chain := x.Chain(who)
		if n != 0 || chain != "" || len(x.Nodes(who)) != 0 || len(x.Accepted(who)) != 0 || !reflect.DeepEqual(x.Group(who), api.Group{}) || len(x.Epochs(who)) != 0 || x.Joined(who) || x.Tampered(who) || x.Waits(who) != 0 || x.Runs(who) {
			t.Errorf("it tells something of %d", who)
		}
	}
	r, found := x.Opened(api.Item{Seq: 1, Epoch: 1})
	if found || !reflect.DeepEqual(r, api.Record{}) || x.Steps() != 0 || len(x.Issued()) != 0 || len(x.View()) != 0 || x.Last() != 0 || x.Calm() {
		t.Error("it tells something")
	}
}

func TestNoSim(t *testing.T) {
	noSim(t, nil)
	noSim(t, &Sim{})
	var x Sim
	noSim(t, &x)
	refused, _ := New(api.Config{})
	noSim(t, refused)
}

func TestCopyIsNone(t *testing.T) {
	x := grouped(t, 2, true)
	ok(t, x, create(1, 0, "a"), send(1))
	twin := *x
	i := x.View()
	unchanged(t, "a copy", x, func() { noSim(t, &twin) })
	f, _ := framesOf(t, i[len(i)-1:])
	if _, found := twin.Opened(api.Item{Epoch: 2, Blob: f[0].Blob}); found {
		t.Error("a copy opens")
	}
	if !slices.Equal(x.View(), i) {
		t.Error("a copy was heard")
	}
	ok(t, x, fetch(1, 9))
	noSim(t, &twin)
	*x = Sim{}
	noSim(t, x)
}

func TestClientsThatThereAreNot(t *testing.T) {
	x := grouped(t, 2, true)
	for _, who := range []int{math.MinInt, -1, 0, 3, 6, 7, math.MaxInt} {
		n, chain := x.Chain(who)
		if n != 0 || chain != "" || len(x.Nodes(who)) != 0 || len(x.Accepted(who)) != 0 || !reflect.DeepEqual(x.Group(who), api.Group{}) || len(x.Epochs(who)) != 0 || x.Joined(who) || x.Tampered(who) || x.Waits(who) != 0 || x.Runs(who) {
			t.Errorf("something is told of %d", who)
		}
	}
}

// What is answered is not shared with what a simulation keeps.
func TestNothingIsShared(t *testing.T) {
	both(t, func(t *testing.T, ideal bool) {
		x := grouped(t, 2, ideal)
		ok(t, x, create(1, 0, "a"), create(2, 0, "b"))
		flush(t, x, 2)
		flush(t, x, 1)
		// As text, which shares nothing with what is told.
		all := func() string { return fmt.Sprintf("%+v %q", tell(x), x.View()) }
		was := all()
		for range 2 {
			nodes, l, issued, g, epochs, seen := x.Nodes(1), x.Accepted(1), x.Issued(), x.Group(1), x.Epochs(1), x.View()
			r, _ := x.Opened(l[0])
			if len(nodes) != 2 || len(l) != 3 || len(issued) != 2 || len(g.Members) != 6 || len(epochs) != 2 || len(seen) == 0 || len(r.Wraps) != 2 {
				t.Fatal("there is nothing to be changed")
			}
			_ = append(nodes[:1], api.Node{Name: "x"})
			_ = append(l[:1], api.Item{Seq: 9})
			_ = append(issued[:1], api.Op{Kind: 9})
			_ = append(g.Members[:1], api.Member{Who: 9})
			_ = append(epochs[:1], 9)
			_ = append(seen[:1], api.Seen{In: "x"})
			_ = append(r.Wraps[:1], api.Wrap{Who: 9})
			clear(nodes[:cap(nodes)])
			clear(l[:cap(l)])
			clear(issued[:cap(issued)])
			clear(g.Members[:cap(g.Members)])
			clear(epochs[:cap(epochs)])
			clear(seen[:cap(seen)])
			clear(r.Wraps[:cap(r.Wraps)])
			if all() != was {
				t.Fatal("it has changed")
			}
		}
		// Nor do two clients share what they accepted, or what is answered later with what was.
		early := x.Accepted(1)
		ok(t, x, keep(1), create(1, 0, "c"))
		flush(t, x, 1)
		clear(early[:cap(early)])
		ok(t, x, join(2), fetch(2, 9), create(2, 0, "d"))
		flush(t, x, 2)
		flush(t, x, 1)
		if !slices.Equal(x.Accepted(1), x.Accepted(2)) || len(x.Accepted(1)) != 5 {
			t.Error("they have not accepted the same")
		}
	})
}

// Simulations hang on nothing but the calls on them: many at once are each as one alone.
func TestManyAtOnce(t *testing.T) {
	var all sync.WaitGroup
	out := make([]told, 8)
	for k := range out {
		all.Go(func() {
			x, _ := New(api.Config{Clients: 2, Ideal: k%2 == 0, Quota: maxQuota})
			for _, s := range []api.Step{add(2), create(1, 0, "a"), send(1), fetch(1, 9), keep(1), join(2), create(2, 1, "b")} {
				x.Step(s)
			}
			if !x.Calm() {
				t.Error("it is not calm")
			}
			out[k] = tell(x)
		})
	}
	all.Wait()
	for k := range out[2:] {
		if !reflect.DeepEqual(out[k+2], out[k]) {
			t.Error("they differ")
		}
	}
}
