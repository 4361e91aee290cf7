package sim

import (
	"fmt"
	"math/rand"
	"reflect"
	"slices"
	"strings"
	"testing"

	"samphire/api"
	"samphire/code"
	"samphire/group"
	"samphire/sha"
	"samphire/tree"
	"samphire/wire"
)

// Si5: the promises of the whole, P1 to P5, on drawn scripts.

// page is what came of all records up to one.
type page struct {
	chain string
	group api.Group
	ops   []api.Op
	// Who was a member when each epoch began.
	in map[int][]int
}

// reader reads what clients accepted, by what is told of a simulation alone.
type reader struct {
	t     *testing.T
	x     *Sim
	items map[int][]api.Item
	pages map[int][]page
	bad   map[int]bool
	// How often something was seen.
	seen map[string]int
}

func readerOf(t *testing.T, x *Sim) *reader {
	return &reader{t, x, map[int][]api.Item{}, map[int][]page{}, map[int]bool{}, map[string]int{}}
}

func first() page {
	return page{chain: sha.Sum("samphire"), group: group.New(), in: map[int][]int{1: {1}}}
}

// next is what comes of one more record.
func (r *reader) next(p page, pages []page, i api.Item) page {
	r.t.Helper()
	o := code.NewOut()
	o.Num(i.Seq)
	o.Num(i.Epoch)
	numbers, _ := o.Done()
	p.chain = sha.Sum(p.chain + numbers + i.Blob)
	if i.Epoch < p.group.Epoch-1 {
		r.seen["passed over"]++
		return p
	}
	rec, found := r.x.Opened(i)
	if !found {
		r.t.Fatalf("accepted, and nobody sealed it: %s", short(i))
	}
	// Who sealed it had come as far as it says, in the chain of who accepts it.
	if rec.Seq >= i.Seq || len(pages)-rec.Seq <= 31 && pages[rec.Seq].chain != rec.Head {
		r.t.Fatalf("it tells another chain: %s", short(rec))
	}
	g, counts, e := group.Judge(p.group, i.Epoch, rec)
	if e != api.OK {
		r.t.Fatalf("Judge: %d", e)
	}
	r.seen[fmt.Sprint("counts: ", counts)]++
	if p.group = g; counts && rec.Kind == api.RecOp {
		p.ops = append(slices.Clone(p.ops), rec.Op)
	} else if counts {
		in := map[int][]int{g.Epoch: nil}
		for epoch, l := range p.in {
			in[epoch] = l
		}
		for _, m := range g.Members {
			if m.In {
				in[g.Epoch] = append(in[g.Epoch], m.Who)
			}
		}
		p.in = in
	}
	return p
}

// look holds all clients against what they accepted, now and ahead.
func (r *reader) look() {
	r.t.Helper()
	for who := 1; who <= len(r.x.parties); who++ {
		r.lookAt(who)
	}
}

func (r *reader) lookAt(who int) {
	r.t.Helper()
	x, l := r.x, r.x.Accepted(who)
	many, chain := x.Chain(who)
	if many != len(l) || len(l) < len(r.items[who]) || !slices.Equal(l[:len(r.items[who])], r.items[who]) {
		r.t.Fatalf("%d accepted %d, it were %d: something was taken back", who, many, len(r.items[who]))
	}
	if r.bad[who] && (!x.Tampered(who) || len(l) > len(r.items[who])) {
		r.t.Fatalf("%d is not tampered any more", who)
	}
	pages := r.pages[who]
	if pages == nil {
		pages = []page{first()}
	}
	for k := len(pages) - 1; k < len(l); k++ {
		if l[k].Seq != k+1 {
			r.t.Fatalf("%d accepted %s as the next of %d", who, short(l[k]), k)
		}
		pages = append(pages, r.next(pages[k], pages, l[k]))
	}
	r.items[who], r.pages[who], r.bad[who] = l, pages, x.Tampered(who)
	if who != 1 && len(l) == 0 {
		return
	}
	p := pages[len(l)]
	if chain != p.chain || !reflect.DeepEqual(x.Group(who), p.group) {
		r.t.Fatalf("%d: %v, not %v", who, x.Group(who), p.group)
	}
	if nodes := nodesOf(p.ops); !slices.Equal(x.Nodes(who), nodes) {
		r.t.Fatalf("%d shows something else:\n%s\n%s", who, short(x.Nodes(who)), short(nodes))
	}
	r.epochs(who, p)
	r.issued(who, p)
}

// epochs holds that who has a key of an epoch was a member as that began.
func (r *reader) epochs(who int, p page) {
	r.t.Helper()
	in := p.group.Members[who-1].In
	if r.x.Joined(who) != in || in != (len(r.x.Epochs(who)) > 0) || !in && r.x.Waits(who) > 0 {
		r.t.Fatalf("%d: joined %t, In %t, epochs %v, %d wait", who, r.x.Joined(who), in, r.x.Epochs(who), r.x.Waits(who))
	}
	for _, epoch := range r.x.Epochs(who) {
		if epoch > p.group.Epoch || epoch < p.group.Epoch-1 {
			r.t.Fatalf("%d has the key of %d, in %d", who, epoch, p.group.Epoch)
		}
	}
	if !in && who != 1 {
		r.seen["removed"]++
	}
}

// issued holds that each operation was issued, and that those of one sender stand in the order in which they were.
func (r *reader) issued(who int, p page) {
	r.t.Helper()
	at := map[int]int{}
	l := r.x.Issued()
	for _, o := range p.ops {
		k := slices.Index(l[at[o.At.Who]:], o)
		if k < 0 {
			r.t.Fatalf("%d accepted what was not issued, or not in this order: %s", who, short(o))
		}
		at[o.At.Who] += k + 1
	}
}

// nodesOf are the nodes of operations, whatever their order.
func nodesOf(l []api.Op) []api.Node {
	x := tree.New()
	for _, o := range l {
		x.Apply(o)
	}
	return x.Nodes()
}

// numbers holds that no number is used for two texts under one key: as far as it is to be seen in what was sent.
func (r *reader) numbers(ideal bool) {
	r.t.Helper()
	used := map[string]string{}
	in, _ := framesOf(r.t, r.x.View())
	for _, f := range in {
		under := ""
		switch f.Kind {
		case api.FrameAppend:
			rec, found := r.x.Opened(api.Item{Epoch: f.Epoch, Blob: f.Blob})
			if !found {
				r.t.Fatalf("sent, and nobody sealed it: %s", short(f))
			}
			under = fmt.Sprint("record ", f.Epoch, rec.From, rec.Count)
		case api.FrameKeep:
			// Ideal seals of one text are not the same.
			if under = fmt.Sprint("keep ", f.Epoch, f.Seq); ideal {
				continue
			}
		default:
			continue
		}
		if was, found := used[under]; found && was != f.Blob {
			r.t.Fatalf("%s: used for two texts", under)
		}
		used[under] = f.Blob
	}
}

// keys holds that nobody has a key of an epoch in which it was no member, nor in the one behind that (a snapshot has both),
// as who has all records tells.
func (r *reader) keys(who int) {
	r.t.Helper()
	l := r.pages[who]
	p := l[len(l)-1]
	for other := 2; other <= len(r.x.parties); other++ {
		for _, epoch := range r.x.Epochs(other) {
			if !slices.Contains(p.in[epoch], other) && !slices.Contains(p.in[epoch+1], other) {
				r.t.Fatalf("%d has the key of %d, of which %v are", other, epoch, p.in[epoch])
			}
		}
	}
}

// wake gives power to all.
func wake(t *testing.T, x *Sim) {
	t.Helper()
	for who := range x.parties {
		ok(t, x, start(who+1))
	}
}

// sum adds up what was seen, and holds that all was.
func sum(t *testing.T, all map[string]int, wanted ...string) {
	t.Helper()
	for _, what := range wanted {
		if all[what] == 0 {
			t.Errorf("it never came: %s", what)
		}
	}
	t.Log(all)
}

// P1, P2, P4, P5 with an honest relay.
func TestDrawnScriptsWithAnHonestRelay(t *testing.T) {
	all := map[string]int{}
	for seed := range int64(24) {
		draw := rand.New(rand.NewSource(4000 + seed))
		clients := 2 + int(seed)%5
		x := grouped(t, clients, seed%2 == 0)
		if seed%4 == 0 {
			x = simOf(t, clients, true)
		}
		r := readerOf(t, x)
		again := seed%3 == 0
		for n := range 300 {
			s := drawnStep(draw, clients)
			if s.Kind == api.StepRemove && !again {
				continue
			}
			all[fmt.Sprint("answer ", int(x.Step(s)))]++
			if n%4 == 0 {
				r.look()
			}
		}
		wake(t, x)
		met := x.Calm()
		r.look()
		r.keys(1)
		r.numbers(seed%2 == 0)
		if !met && !again {
			t.Errorf("seed %d: they have not met", seed)
		}
		meet(t, x, r)
		for what, n := range r.seen {
			all[what] += n
		}
	}
	sum(t, all, "counts: true", "counts: false", "removed", "late", "answer 2", "answer 170", "answer 200", "answer 210", "answer 221", "answer 70")
}

// meet lets all members that did not join yet do so, and holds that all show the same.
func meet(t *testing.T, x *Sim, r *reader) {
	t.Helper()
	ok(t, x, create(1, 0, "last"))
	flush(t, x, 1)
	ok(t, x, keep(1))
	for who := 2; who <= len(x.parties); who++ {
		if x.Group(1).Members[who-1].In && x.Step(join(who)) == api.OK {
			r.seen["late"]++
		}
	}
	if !x.Calm() {
		t.Error("they do not meet")
	}
	for who := 1; who <= len(x.parties); who++ {
		if x.Tampered(who) {
			t.Fatalf("%d is tampered by an honest relay", who)
		}
		if x.Group(1).Members[who-1].In {
			equal(t, x, 1, who)
		}
	}
	r.look()
}

// P1, P2 whatever the relay answers.
func TestDrawnScriptsWithATwistingRelay(t *testing.T) {
	all := map[string]int{}
	for seed := range int64(40) {
		draw := rand.New(rand.NewSource(5000 + seed))
		clients := 2 + int(seed)%5
		x := grouped(t, clients, seed%2 == 0)
		r := readerOf(t, x)
		for n := range 250 {
			s := drawnStep(draw, clients)
			if draw.Intn(20) == 0 {
				s = api.Step{Kind: api.StepTwist, At: s.At, N: draw.Intn(8), Text: drawnText(draw, x)}
				all[fmt.Sprint("twist ", s.N)]++
			}
			all[fmt.Sprint("answer ", int(x.Step(s)))]++
			if n%4 == 0 {
				r.look()
			}
		}
		wake(t, x)
		x.Calm()
		r.look()
		for who := 1; who <= clients; who++ {
			all[fmt.Sprint("tampered: ", x.Tampered(who))]++
		}
		for what, n := range r.seen {
			all[what] += n
		}
	}
	sum(t, all, "counts: true", "tampered: true", "tampered: false", "answer 220", "answer 190", "twist 0", "twist 1", "twist 2", "twist 3", "twist 4", "twist 5", "twist 6", "twist 7")
}

// P2: of two logs, none is taken by who has taken from the other one.
func TestNoTwoLogs(t *testing.T) {
	both(t, func(t *testing.T, ideal bool) {
		x := grouped(t, 3, ideal)
		ok(t, x, create(1, 0, "a"), create(1, 0, "b"), create(2, 0, "c"))
		flush(t, x, 1)
		// 3 hears of the two the other way round, or of the second one alone, or of the first one twice.
		records := func(l ...int) string {
			var items []api.Item
			for k, n := range l {
				i := x.Accepted(1)[n]
				items = append(items, api.Item{Seq: 3 + k, Epoch: i.Epoch, Blob: i.Blob})
			}
			return asBytes(t, api.Frame{Kind: api.FrameGiven, Items: items})
		}
		for _, l := range [][]int{{3, 2}, {3}, {2, 2}, {1, 2}, {2, 3, 2}, {2, 3, 3}} {
			y := grouped(t, 3, ideal)
			ok(t, y, create(1, 0, "a"), create(1, 0, "b"), create(2, 0, "c"))
			flush(t, y, 1)
			ok(t, y, twistText(3, records(l...)))
			does(t, y, api.ErrTampered, fetch(3, 9))
			has(t, y, 3, 2)
			if len(y.Nodes(3)) != 0 {
				t.Error(y.Nodes(3))
			}
		}
		// Cut short it is a beginning.
		ok(t, x, twistText(3, records(2)), fetch(3, 9))
		has(t, x, 3, 3)
		ok(t, x, fetch(3, 9))
		has(t, x, 3, 4)
		// Who has heard of another log is told by what it sends itself.
		ok(t, x, send(2), fetch(1, 9), fetch(2, 1), fetch(2, 9))
		has(t, x, 2, x.Last())
	})
}

// P3: what differs in what is edited alone, padded alike, leads to the same frames.
func TestTheRelayIsBlind(t *testing.T) {
	frames := 0
	for seed := range int64(12) {
		draw, other := rand.New(rand.NewSource(6000+seed)), rand.New(rand.NewSource(7000+seed))
		x, y := grouped(t, 3, true), grouped(t, 3, true)
		for range 200 {
			s := drawnStep(draw, 3)
			if s.Kind == api.StepKeep {
				continue // How many nodes there are is to be seen in how great a snapshot is.
			}
			z := s
			if s.Kind == api.StepEdit {
				z.Op, z.Node, z.Into = 1+other.Intn(5), other.Intn(9), other.Intn(9)
				z.Name, z.Value = fmt.Sprint("m", other.Intn(1000)), strings.Repeat("v", other.Intn(40))
			}
			if a, b := x.Step(s), y.Step(z); a != b {
				t.Fatalf("%s: %d, %d", short(s), a, b)
			}
		}
		wake(t, x)
		wake(t, y)
		if a, b := x.Calm(), y.Calm(); a != b {
			t.Error(a, b)
		}
		if !slices.Equal(x.View(), y.View()) {
			t.Fatalf("seed %d: they are told apart", seed)
		}
		if reflect.DeepEqual(x.Issued(), y.Issued()) {
			t.Errorf("seed %d: they do not differ", seed)
		}
		frames += len(x.View())
	}
	t.Log(frames)
}

// With snapshots, too, if those are padded alike.
func TestTheRelayIsBlindBehindSnapshots(t *testing.T) {
	turn := func(s string) string { return strings.Map(func(c rune) rune { return 'a' + (c+7)%26 }, s) }
	for seed := range int64(12) {
		draw := rand.New(rand.NewSource(8000 + seed))
		x, y := simOf(t, 3, true), simOf(t, 3, true)
		kept := 0
		for range 200 {
			s := drawnStep(draw, 3)
			z := s
			z.Name, z.Value = turn(s.Name), turn(s.Value)
			a, b := x.Step(s), y.Step(z)
			if a != b {
				t.Fatalf("%s: %d, %d", short(s), a, b)
			}
			if s.Kind == api.StepKeep && a == api.OK {
				kept++
			}
		}
		if !slices.Equal(x.View(), y.View()) {
			t.Fatalf("seed %d: they are told apart", seed)
		}
		if len(x.Issued()) > 0 && reflect.DeepEqual(x.Issued(), y.Issued()) {
			t.Errorf("seed %d: they do not differ", seed)
		}
		t.Log(kept, len(x.View()))
	}
	// What is padded otherwise is seen.
	x, y := simOf(t, 1, true), simOf(t, 1, true)
	ok(t, x, create(1, 0, "n"), send(1))
	ok(t, y, create(1, 0, strings.Repeat("é", 32)), send(1))
	if slices.Equal(x.View(), y.View()) {
		t.Error("they are not told apart")
	}
}

// P5: who was removed has no key of a later epoch, and what it seals counts no more.
func TestWhoWasRemovedIsOut(t *testing.T) {
	both(t, func(t *testing.T, ideal bool) {
		x := grouped(t, 3, ideal)
		// It is removed, and does not know that yet.
		ok(t, x, remove(3), send(1), fetch(1, 9), create(3, 0, "a"), create(3, 0, "b"), send(3))
		ok(t, x, create(1, 0, "c"), send(1))
		if !x.Calm() {
			t.Error("it is not calm")
		}
		equal(t, x, 1, 2)
		if l := x.Nodes(2); len(l) != 1 || l[0].Name != "c" {
			t.Error(l)
		}
		if x.Joined(3) || len(x.Epochs(3)) != 0 || !slices.Equal(x.Epochs(1), []int{3, 4}) {
			t.Error(x.Epochs(3), x.Epochs(1))
		}
		refused(t, x, api.ErrWait, create(3, 0, "d"), send(3), fetch(3, 9))
		// By no answer does it come to what lies behind.
		_, out := framesOf(t, x.View())
		ok(t, x, keep(1))
		for _, f := range out {
			ok(t, x, twistText(3, asBytes(t, f)))
			x.Step(join(3))
		}
		does(t, x, api.ErrSeal, join(3))
		if x.Joined(3) || len(x.Epochs(3)) != 0 {
			t.Error("3 is a member")
		}
		// Added again, it is.
		ok(t, x, add(3))
		flush(t, x, 1)
		ok(t, x, keep(1), join(3), create(3, 0, "e"))
		if !x.Calm() {
			t.Error("it is not calm")
		}
		equal(t, x, 1, 2, 3)
		if l := x.Nodes(2); len(l) != 2 || wire.Check(mustOpen(t, x, x.Accepted(2)[x.Last()-1])) != api.OK {
			t.Error(l)
		}
	})
}

func mustOpen(t *testing.T, x *Sim, i api.Item) api.Record {
	t.Helper()
	r, found := x.Opened(i)
	if !found {
		t.Fatal("it is not opened")
	}
	return r
}
