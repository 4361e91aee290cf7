package client

import (
	"math"
	"reflect"
	"slices"
	"strings"
	"testing"

	"samphire/api"
	"samphire/group"
	"samphire/keys"
	"samphire/pad"
	"samphire/relay"
	"samphire/vault"
	"samphire/wire"
)

// Cl2.

// Stamps rise; of OpCreate the number of the node is the stamp, whatever was handed in.
func TestEdit(t *testing.T) {
	b := bookOf(t, vault.Real())
	b.control(api.RecAdd, 2)
	b.create(1, 7, "a")
	for who := 1; who <= 2; who++ {
		c := b.member(who)
		at := api.Stamp{Time: 7, Who: who}
		other := api.Stamp{Time: 3, Who: 6}
		for k, x := range []struct{ in, want api.Op }{
			{api.Op{Kind: api.OpCreate, Name: "a"}, api.Op{Kind: api.OpCreate, Name: "a"}},
			{api.Op{Kind: api.OpCreate, At: other, Node: other, Parent: at, Name: "é"}, api.Op{Kind: api.OpCreate, Parent: at, Name: "é"}},
			{api.Op{Kind: api.OpMove, Node: other, Parent: at}, api.Op{Kind: api.OpMove, Node: other, Parent: at}},
			{api.Op{Kind: api.OpMove, Node: other, Parent: api.Stamp{Who: 1}}, api.Op{Kind: api.OpMove, Node: other, Parent: api.Stamp{Who: 1}}},
			{api.Op{Kind: api.OpRename, At: at, Node: at, Name: "b"}, api.Op{Kind: api.OpRename, Node: at, Name: "b"}},
			{api.Op{Kind: api.OpSet, Node: at, Value: text(64)}, api.Op{Kind: api.OpSet, Node: at, Value: text(64)}},
			{api.Op{Kind: api.OpSet, Node: at}, api.Op{Kind: api.OpSet, Node: at}},
			{api.Op{Kind: api.OpTrash, Node: at}, api.Op{Kind: api.OpTrash, Node: at}},
		} {
			at.Time++
			x.want.At = at
			if x.want.Kind == api.OpCreate {
				x.want.Node = at
			}
			o, e := c.Edit(x.in)
			if o != x.want || e != api.OK || c.Waits() != k+1 {
				t.Errorf("Edit %+v: %+v %d, %d wait", x.in, o, e, c.Waits())
			}
			if l := c.Nodes(); !slices.Equal(l, nodesOf(b.now().ops)) {
				t.Errorf("shown ahead of what comes: %v", l)
			}
		}
	}
}

func TestEditOfWhatMayNotBe(t *testing.T) {
	b := bookOf(t, vault.Ideal("seed"))
	b.create(1, 5, "a")
	b.control(api.RecAdd, 2)
	node := api.Stamp{Time: 5, Who: 1}
	for who := 1; who <= 2; who++ {
		c := b.member(who)
		first := edit(t, c, "first")
		for _, o := range []api.Op{
			{}, {Kind: -1, Node: node}, {Kind: 6, Node: node}, {Kind: math.MaxInt, Node: node},
			{Kind: api.OpCreate}, {Kind: api.OpCreate, Name: "a/b"}, {Kind: api.OpCreate, Name: ".."}, {Kind: api.OpCreate, Name: strings.Repeat("a", 33)},
			{Kind: api.OpCreate, Name: "a", Value: "v"}, {Kind: api.OpCreate, Name: "a", Parent: api.Stamp{Who: 2}}, {Kind: api.OpCreate, Name: "a", Parent: api.Stamp{Time: 1, Who: 7}},
			{Kind: api.OpMove}, {Kind: api.OpMove, Node: node, Parent: api.Stamp{Time: -1, Who: 1}}, {Kind: api.OpMove, Node: node, Name: "a"}, {Kind: api.OpMove, Parent: node},
			{Kind: api.OpRename, Node: node}, {Kind: api.OpRename, Name: "a"}, {Kind: api.OpRename, Node: node, Name: " a"}, {Kind: api.OpRename, Node: node, Name: "a", Parent: node},
			{Kind: api.OpSet, Node: node, Value: text(65)}, {Kind: api.OpSet, Value: "v"}, {Kind: api.OpSet, Node: node, Name: "a"},
			{Kind: api.OpTrash}, {Kind: api.OpTrash, Node: node, Parent: node}, {Kind: api.OpTrash, Node: node, Value: "v"}, {Kind: api.OpTrash, Node: api.Stamp{Time: maxTime + 1, Who: 1}},
		} {
			refused(t, c, api.ErrArg, edits(c, o))
		}
		// The clock did not go on.
		if o := edit(t, c, "second"); o.At != (api.Stamp{Time: first.At.Time + 1, Who: who}) {
			t.Errorf("the next stamp: %v", o.At)
		}
	}
}

func TestMostThatWait(t *testing.T) {
	b := bookOf(t, vault.Ideal("seed"))
	b.control(api.RecAdd, 2)
	for who := 1; who <= 2; who++ {
		c := b.member(who)
		for k := range mostWait {
			if c.Waits() != k {
				t.Fatalf("%d wait, not %d", c.Waits(), k)
			}
			if who == 1 && k%2 == 1 {
				control(t, c, api.RecRotate, 0)
			} else {
				edit(t, c, "a")
			}
		}
		for range 2 {
			refused(t, c, api.ErrFull, edits(c, api.Op{Kind: api.OpCreate, Name: "a"}))
			// Ahead of ErrArg.
			refused(t, c, api.ErrFull, edits(c, api.Op{}))
			if who == 1 {
				refused(t, c, api.ErrFull, controls(c, api.RecAdd, 3))
				refused(t, c, api.ErrFull, controls(c, api.RecRotate, 0))
				refused(t, c, api.ErrArg, controls(c, api.RecRotate, 1))
			}
			c = open(t, c.device, b.seal, who)
		}
		if c.Waits() != mostWait {
			t.Errorf("%d wait", c.Waits())
		}
		x := b.copied()
		x.sent(c)
		if c.Waits() != mostWait-1 {
			t.Errorf("%d wait, when one was taken", c.Waits())
		}
		edit(t, c, "a")
		refused(t, c, api.ErrFull, edits(c, api.Op{Kind: api.OpCreate, Name: "a"}))
	}
}

// They are sent one behind the other, as they were let wait.
func TestTheOrderInWhichTheyWait(t *testing.T) {
	b := bookOf(t, vault.Real())
	c := b.admin()
	var want []api.Record
	for k := range mostWait {
		if k%3 == 2 {
			control(t, c, api.RecAdd, k%5+2)
			want = append(want, api.Record{Kind: api.RecAdd, Who: k%5 + 2})
		} else {
			want = append(want, api.Record{Kind: api.RecOp, Op: edit(t, c, "a")})
		}
	}
	for k, w := range want {
		if k%4 == 0 {
			c = open(t, c.device, b.seal, 1)
		}
		send(t, c)
		r, ok := c.Next()
		if !ok || r.Kind != w.Kind || r.Op != w.Op || r.Who != w.Who || r.Count != k+1 {
			t.Fatalf("%d: %s, not %s", k, short(r), short(w))
		}
		b.takeFrame(c, api.Frame{Epoch: b.epoch(), Blob: b.blob(b.epoch(), r)})
		b.all(c)
		if c.Waits() != len(want)-k-1 {
			t.Fatalf("%d: %d wait", k, c.Waits())
		}
	}
	b.at(c, len(want))
}

func TestSpentClock(t *testing.T) {
	for _, by := range []string{"a record", "a snapshot"} {
		b := bookOf(t, vault.Ideal("seed"))
		b.control(api.RecAdd, 2)
		b.create(2, maxTime-1, "a")
		c := b.admin()
		if o := edit(t, c, "b"); o.At != (api.Stamp{Time: maxTime, Who: 1}) {
			t.Errorf("%v", o.At)
		}
		refused(t, c, api.ErrSpent, edits(c, api.Op{Kind: api.OpCreate, Name: "c"}))
		// Ahead of ErrArg; but behind ErrFull.
		refused(t, c, api.ErrSpent, edits(c, api.Op{}))
		b.create(2, maxTime, "d")
		m := client(t, b.seal, 2)
		if by == "a record" {
			hears(t, c, given(t, b.items[2]), api.OK)
			m = c
		} else {
			hears(t, m, b.snap(), api.OK)
		}
		refused(t, m, api.ErrSpent, edits(m, api.Op{Kind: api.OpCreate, Name: "c"}))
		for c.Waits() < mostWait {
			control(t, c, api.RecRotate, 0)
		}
		refused(t, c, api.ErrFull, edits(c, api.Op{Kind: api.OpCreate, Name: "c"}))
	}
}

func TestControl(t *testing.T) {
	b := bookOf(t, vault.Ideal("seed"))
	for who := 2; who <= 6; who++ {
		b.control(api.RecAdd, who)
	}
	kinds := []int{-1, 0, api.RecOp, api.RecAdd, api.RecRemove, api.RecRotate, 5, math.MaxInt, math.MinInt}
	whos := []int{-1, 0, 1, 2, 3, 4, 5, 6, 7, math.MaxInt, math.MinInt}
	for who := 1; who <= 6; who++ {
		c := b.member(who)
		for _, kind := range kinds {
			for _, of := range whos {
				fine := (kind == api.RecAdd || kind == api.RecRemove) && of >= 1 && of <= 6 || kind == api.RecRotate && of == 0
				switch {
				case who != 1:
					refused(t, c, api.ErrMember, controls(c, kind, of))
				case !fine:
					refused(t, c, api.ErrArg, controls(c, kind, of))
				default:
					n := c.Waits()
					if e := c.Control(kind, of); e != api.OK || c.Waits() != n+1 {
						t.Errorf("Control %d, %d: %d", kind, of, e)
					}
				}
			}
		}
	}
	// One who is not the admin is told so ahead of all else.
	c := b.member(2)
	for range mostWait {
		edit(t, c, "a")
	}
	refused(t, c, api.ErrMember, controls(c, api.RecAdd, 3))
	refused(t, c, api.ErrMember, controls(c, 0, 0))
}

// Cl3.

// What is sent is just the record that it must be, sealed as the chapter says: to the byte.
func TestWhatIsSent(t *testing.T) {
	for who := 1; who <= 2; who++ {
		b := bookOf(t, vault.Real())
		b.create(1, 1, "a")
		b.control(api.RecAdd, 2)
		b.create(2, 3, "b")
		b.create(1, 4, "c")
		c := b.member(who)
		for k := range 5 {
			o := edit(t, c, "name"+strings.Repeat("x", 7*k))
			want := b.made(api.Record{Kind: api.RecOp, From: who, Op: o})
			f, e := c.Send()
			if f != asBytes(t, api.Frame{Kind: api.FrameAppend, Epoch: 2, Blob: b.blob(2, want)}) || e != api.OK {
				t.Errorf("Send: %d, %d bytes", e, len(f))
			}
			if r, ok := c.Next(); !ok || !reflect.DeepEqual(r, want) {
				t.Errorf("Next: %s, not %s", short(r), short(want))
			}
			if c.Waits() != 1 {
				t.Errorf("%d wait", c.Waits())
			}
			b.take(2, want)
			b.all(c)
			if _, ok := c.Next(); ok || c.Waits() != 0 {
				t.Error("it waits yet")
			}
			b.at(c, b.many())
		}
	}
}

// What the admin sends has the next epoch's key, for all who are members then; none, if it would not count.
func TestWhatTheAdminSends(t *testing.T) {
	b := bookOf(t, vault.Real())
	c := b.admin()
	for k, x := range []struct {
		kind, who int
		in        []int
	}{
		{api.RecAdd, 2, []int{1, 2}},
		{api.RecAdd, 2, nil},
		{api.RecAdd, 1, nil},
		{api.RecRemove, 1, nil},
		{api.RecRemove, 3, nil},
		{api.RecRotate, 0, []int{1, 2}},
		{api.RecAdd, 6, []int{1, 2, 6}},
		{api.RecAdd, 3, []int{1, 2, 3, 6}},
		{api.RecRemove, 2, []int{1, 3, 6}},
		{api.RecRemove, 2, nil},
		{api.RecAdd, 2, []int{1, 2, 3, 6}},
		{api.RecAdd, 4, []int{1, 2, 3, 4, 6}},
		{api.RecAdd, 5, []int{1, 2, 3, 4, 5, 6}},
		{api.RecRotate, 0, []int{1, 2, 3, 4, 5, 6}},
		{api.RecRemove, 6, []int{1, 2, 3, 4, 5}},
	} {
		control(t, c, x.kind, x.who)
		epoch := b.epoch()
		f := send(t, c)
		r, ok := c.Next()
		if !ok || r.Kind != x.kind || r.From != 1 || r.Who != x.who || r.Count != k+1 || r.Seq != k || r.Head != b.now().chain || r.Op != (api.Op{}) {
			t.Fatalf("%d: %s", k, short(r))
		}
		var in []int
		for _, w := range r.Wraps {
			in = append(in, w.Who)
			if got, e := keys.Unwrap(allOwn()[w.Who-1], w.Who, epoch+1, w.Text); got != key(epoch+1) || e != api.OK {
				t.Errorf("%d: the wrap of %d: %d", k, w.Who, e)
			}
		}
		if !slices.Equal(in, x.in) {
			t.Errorf("%d: wrapped for %v, not %v", k, in, x.in)
		}
		if f.Blob != b.blob(epoch, r) || f.Epoch != epoch {
			t.Errorf("%d: it is sealed otherwise", k)
		}
		b.takeFrame(c, f)
		b.all(c)
		b.at(c, k+1)
		if want := epoch + min(len(x.in), 1); c.Group().Epoch != want {
			t.Errorf("%d: the epoch %d, not %d", k, c.Group().Epoch, want)
		}
	}
}

func TestSendOfNothing(t *testing.T) {
	b := bookOf(t, vault.Ideal("seed"))
	b.control(api.RecAdd, 2)
	for who := 1; who <= 2; who++ {
		c := b.member(who)
		refused(t, c, api.ErrNone, sends(c))
		edit(t, c, "a")
		x := b.copied()
		x.sent(c)
		refused(t, c, api.ErrNone, sends(c))
		hears(t, c, given(t), api.OK)
		refused(t, c, api.ErrNone, sends(c))
	}
}

// What was sent is sent again, just as it was, once a FrameGiven without items was heard since; not by all else.
func TestSentAgain(t *testing.T) {
	b := bookOf(t, vault.Ideal("seed"))
	b.create(1, 1, "a")
	b.control(api.RecAdd, 2)
	base := b.many()
	// Of the other one: so they are not what is waited for.
	b.create(1, 2, "b")
	b.create(1, 3, "c")
	c := client(t, b.seal, 2)
	hears(t, c, b.until(base).snap(), api.OK)
	edit(t, c, "x")
	edit(t, c, "y")
	f, e := c.Send()
	if e != api.OK {
		t.Fatal(e)
	}
	r, _ := c.Next()
	soon := func() {
		t.Helper()
		refused(t, c, api.ErrWait, sends(c))
		c = open(t, c.device, b.seal, 2)
		refused(t, c, api.ErrWait, sends(c))
	}
	soon()
	for _, s := range []string{
		asBytes(t, api.Frame{Kind: api.FrameTaken, Seq: 3}), asBytes(t, api.Frame{Kind: api.FrameKept, Seq: 3}),
		asBytes(t, api.Frame{Kind: api.FrameError, Err: api.OK}), b.until(base).snap(),
	} {
		hears(t, c, s, api.OK)
		soon()
	}
	hears(t, c, asBytes(t, api.Frame{Kind: api.FrameError, Err: api.ErrQuota}), api.ErrQuota)
	hears(t, c, "junk", api.ErrWire)
	hears(t, c, given(t, b.items[base+1]), api.ErrWire)
	hears(t, c, asBytes(t, api.Frame{Kind: api.FrameGiven, Group: 1}), api.ErrWire)
	c.Fetch(9)
	c.Join()
	edit(t, c, "z")
	soon()
	hears(t, c, given(t, b.items[base]), api.OK)
	soon()
	for k := range 3 {
		hears(t, c, given(t), api.OK)
		hears(t, c, given(t), api.OK)
		if k == 1 {
			// Others' records do not let it be forgotten, nor let it be sealed anew.
			hears(t, c, given(t, b.items[base+1]), api.OK)
		}
		if k == 2 {
			c = open(t, c.device, b.seal, 2)
		}
		again, e := c.Send()
		if again != f || e != api.OK {
			t.Errorf("%d: Send: %d, not the same frame", k, e)
		}
		if x, ok := c.Next(); !ok || !reflect.DeepEqual(x, r) {
			t.Errorf("%d: Next: %s", k, short(x))
		}
		soon()
	}
	if c.Waits() != 3 {
		t.Errorf("%d wait", c.Waits())
	}
}

// The next one was not sent yet: it needs no such frame ahead.
func TestTheNextOneIsSentAtOnce(t *testing.T) {
	b := bookOf(t, vault.Real())
	c := b.admin()
	for k := range 4 {
		edit(t, c, "a")
		edit(t, c, "b")
		b.sent(c)
		if _, ok := c.Next(); ok {
			t.Error("the next one is sealed")
		}
		b.sent(c)
		if n, _ := c.Chain(); n != 2*k+2 || c.Waits() != 0 {
			t.Errorf("%d, %d wait", n, c.Waits())
		}
	}
}

// What waits is sealed anew, if its epoch is below the group's less 1; else it is sent as it was.
func TestSealedAnew(t *testing.T) {
	for rotations := range 4 {
		b := bookOf(t, vault.Ideal("seed"))
		b.control(api.RecAdd, 2)
		b.create(2, 1, "a")
		c := b.member(2)
		o := edit(t, c, "x")
		f := send(t, c)
		r, _ := c.Next()
		for range rotations {
			b.control(api.RecRotate, 0)
		}
		b.all(c)
		// Not ahead of the time.
		refused(t, c, api.ErrWait, sends(c))
		if x, _ := c.Next(); !reflect.DeepEqual(x, r) {
			t.Errorf("%d: sealed anew ahead of Send", rotations)
		}
		hears(t, c, given(t), api.OK)
		many := b.seal.Many()
		again := send(t, c)
		x, ok := c.Next()
		if rotations < 2 {
			if !reflect.DeepEqual(again, f) || !reflect.DeepEqual(x, r) || b.seal.Many() != many {
				t.Errorf("%d: another frame", rotations)
			}
		} else {
			want := b.made(api.Record{Kind: api.RecOp, From: 2, Op: o})
			if !ok || !reflect.DeepEqual(x, want) || again.Epoch != 2+rotations || b.seal.Many() != many+1 {
				t.Errorf("%d: %s in %d, not %s", rotations, short(x), again.Epoch, short(want))
			}
			if x.Count != 2 || x.Seq != 2+rotations {
				t.Errorf("%d: %s", rotations, short(x))
			}
		}
		refused(t, c, api.ErrWait, sends(c))
		b.takeFrame(c, again)
		b.all(c)
		b.at(c, b.many())
		if c.Waits() != 0 || len(c.Nodes()) != 2 {
			t.Errorf("%d: %d wait", rotations, c.Waits())
		}
	}
}

// A number that may not be has no text: nothing is sealed.
func TestNoNumberIsLeft(t *testing.T) {
	b := bookOf(t, vault.Ideal("seed"))
	b.control(api.RecAdd, 2)
	for _, left := range []int{0, 1} {
		x := b.content(1)
		x.group.Members = slices.Clone(x.group.Members)
		x.group.Members[1].Count = maxTime - left
		c := client(t, b.seal, 2)
		hears(t, c, b.snapOf(x), api.OK)
		edit(t, c, "a")
		if left == 0 {
			refused(t, c, api.ErrSpent, sends(c))
			continue
		}
		send(t, c)
		if r, ok := c.Next(); !ok || r.Count != maxTime {
			t.Errorf("Next: %s", short(r))
		}
	}
}

func TestNextAheadOfSend(t *testing.T) {
	c := client(t, vault.Real(), 1)
	for k := range 3 {
		if r, ok := c.Next(); ok || !reflect.DeepEqual(r, api.Record{}) {
			t.Errorf("%d wait: Next: %s", k, short(r))
		}
		edit(t, c, "a")
	}
	send(t, c)
	for range 3 {
		if r, ok := c.Next(); !ok || r.Op.At.Time != 1 {
			t.Errorf("Next: %s", short(r))
		}
		edit(t, c, "b")
	}
}

// Cl4.

func TestFetch(t *testing.T) {
	b := bookOf(t, vault.Ideal("seed"))
	b.control(api.RecAdd, 2)
	b.create(2, 1, "a")
	for who := 1; who <= 2; who++ {
		c := b.member(who)
		for _, most := range []int{-1, maxTime + 1, -maxTime, math.MinInt, math.MaxInt} {
			refused(t, c, api.ErrArg, fetches(c, most))
		}
		for _, most := range []int{0, 1, 2, 8, 32, 33, maxTime - 1, maxTime} {
			if f, e := c.Fetch(most); f != asBytes(t, api.Frame{Kind: api.FrameFetch, Seq: 3, Max: most}) || e != api.OK {
				t.Errorf("Fetch %d: %d", most, e)
			}
		}
	}
	c := client(t, b.seal, 1)
	for n, i := range b.items {
		if f, e := c.Fetch(8); f != asBytes(t, api.Frame{Kind: api.FrameFetch, Seq: n + 1, Max: 8}) || e != api.OK {
			t.Errorf("%d: Fetch: %d", n, e)
		}
		hears(t, c, given(t, i), api.OK)
	}
	if f, _ := c.Fetch(0); f != "\x03"+numbers(0, 3, 0, 0, 0)+"\x00\x00\x00" {
		t.Errorf("Fetch: %x", f)
	}
}

// Behind the greatest number there is none that could be fetched.
func TestFetchBehindTheLastNumber(t *testing.T) {
	b := bookOf(t, vault.Ideal("seed"))
	x := b.content(0)
	x.many = maxTime
	c := client(t, b.seal, 1)
	hears(t, c, b.snapOf(x), api.OK)
	refused(t, c, api.ErrSpent, fetches(c, 8))
	refused(t, c, api.ErrArg, fetches(c, -1))
	if _, e := c.Keep(); e != api.OK {
		t.Errorf("Keep: %d", e)
	}
	x.many--
	c = client(t, b.seal, 1)
	hears(t, c, b.snapOf(x), api.OK)
	if f, e := c.Fetch(8); f != asBytes(t, api.Frame{Kind: api.FrameFetch, Seq: maxTime, Max: 8}) || e != api.OK {
		t.Errorf("Fetch: %d", e)
	}
}

func TestJoin(t *testing.T) {
	b := bookOf(t, vault.Real())
	b.control(api.RecAdd, 2)
	for who := 1; who <= 6; who++ {
		c := client(t, b.seal, who)
		if who <= 2 {
			c = b.member(who)
		}
		was := whole(c)
		if f, e := c.Join(); f != "\x07"+numbers(0, 0, 0, 0, 0)+"\x00\x00\x00" || e != api.OK || whole(c) != was {
			t.Errorf("%d: Join: %x %d", who, f, e)
		}
	}
}

// A snapshot is just what the chapter says, to the byte.
func TestKeep(t *testing.T) {
	b := bookOf(t, vault.Real())
	c := client(t, b.seal, 1)
	refused(t, c, api.ErrNone, keeps(c))
	edit(t, c, "waits")
	send(t, c)
	refused(t, c, api.ErrNone, keeps(c))
	c = client(t, b.seal, 1)
	for k := range 40 {
		switch {
		case k == 3 || k == 9 || k == 20:
			b.control(api.RecAdd, 2+k%6)
		case k == 15:
			b.control(api.RecRotate, 0)
		case k == 17:
			b.control(api.RecRemove, 5)
		case k == 18:
			// One that nobody can read any more: it is among the chains alone.
			b.takeItem(b.item(1, "x"), nil)
		case k > 4 && k%3 == 0:
			b.create(5, 10*k, "x")
		default:
			b.create(1, 9*k+1, "y")
		}
		b.all(c)
		f, e := c.Keep()
		x := b.content(k + 1)
		want := asBytes(t, api.Frame{Kind: api.FrameKeep, Seq: k + 1, Epoch: b.epoch(), Blob: b.snapBlob(b.epoch(), k+1, b.now().group, b.contentBytes(x))})
		if f != want || e != api.OK {
			t.Fatalf("%d: Keep: %d, %d bytes, not %d", k, e, len(f), len(want))
		}
		was := whole(c)
		if again, e := c.Keep(); again != f || e != api.OK || whole(c) != was {
			t.Errorf("%d: Keep again: %d", k, e)
		}
		if g, _ := wire.Take(f); len(g.Blob) < 6*48+64+16 {
			t.Errorf("%d: a Blob of %d bytes", k, len(g.Blob))
		}
	}
}

func TestKeepByOthers(t *testing.T) {
	b := bookOf(t, vault.Ideal("seed"))
	for who := 2; who <= 6; who++ {
		b.control(api.RecAdd, who)
	}
	for who := 2; who <= 6; who++ {
		c := b.member(who)
		refused(t, c, api.ErrMember, keeps(c))
	}
}

// As much as can be padded, and one byte more.
func TestKeepOfMuch(t *testing.T) {
	b := bookOf(t, vault.Ideal("seed"))
	// One who never does anything lets nothing be for good.
	b.control(api.RecAdd, 2)
	c := client(t, b.seal, 1)
	many := 1
	bytes := func() int { return len(b.contentBytes(b.content(b.many()))) }
	for bytes() < 16100 {
		b.create(1, many, "nnnnnnnnnnnnnnnn")
		many++
	}
	b.all(c)
	rest := 16383 - bytes()
	for rest > 80 {
		b.create(1, many, "n")
		many++
		rest = 16383 - bytes()
	}
	at := api.Stamp{Time: many, Who: 1}
	fit := rest - (1 + 7 + 7 + 7 + 2 + 2)
	just, over := b.copied(), b.copied()
	for k, x := range []*book{just, over} {
		x.do(api.Record{Kind: api.RecOp, From: 1, Op: api.Op{Kind: api.OpSet, At: at, Node: api.Stamp{Time: 1, Who: 1}, Value: text(fit + k)}})
		if n := len(x.contentBytes(x.content(x.many()))); n != 16383+k {
			t.Fatalf("%d bytes", n)
		}
		d := twin(t, c.device)
		y := open(t, d, b.seal, 1)
		x.all(y)
		x.at(y, x.many())
		if k == 1 {
			refused(t, y, api.ErrFull, keeps(y))
			continue
		}
		f, e := y.Keep()
		g, bad := wire.Take(f)
		if e != api.OK || bad != api.OK || len(g.Blob) != 6*48+16384+16 {
			t.Errorf("Keep: %d %d, a Blob of %d bytes", e, bad, len(g.Blob))
		}
		// And it is heard.
		f = asBytes(t, api.Frame{Kind: api.FrameSnap, Seq: g.Seq, Epoch: g.Epoch, Blob: g.Blob})
		z := client(t, b.seal, 2)
		hears(t, z, f, api.OK)
		x.at(z, x.many())
	}
}

// A relay takes what a client sends, and keeps what it lets it keep: what comes back is heard by all.
func TestByARelay(t *testing.T) {
	for _, s := range []*vault.Sealer{vault.Real(), vault.Ideal("seed")} {
		r, _ := relay.New(0, 1<<20)
		a, m := client(t, s, 1), client(t, s, 2)
		ask := func(c *Client, f func() (string, api.Errno), want api.Errno) {
			t.Helper()
			x, e := f()
			if e != api.OK {
				t.Fatal(e)
			}
			hears(t, c, r.Hear(x), want)
		}
		fetch := func(c *Client) func() (string, api.Errno) {
			return func() (string, api.Errno) { return c.Fetch(8) }
		}
		o := edit(t, a, "a")
		control(t, a, api.RecAdd, 2)
		for range 2 {
			ask(a, a.Send, api.OK)
			ask(a, fetch(a), api.OK)
		}
		ask(m, m.Join, api.ErrNone)
		ask(a, a.Keep, api.OK)
		ask(m, m.Join, api.OK)
		if !m.Joined() || !slices.Equal(m.Epochs(), []int{1, 2}) {
			t.Fatal("it has not joined")
		}
		if e := m.Control(api.RecRotate, 0); e != api.ErrMember {
			t.Error(e)
		}
		m.Edit(api.Op{Kind: api.OpRename, Node: o.At, Name: "b"})
		ask(m, m.Send, api.OK)
		for _, c := range []*Client{a, m} {
			ask(c, fetch(c), api.OK)
			if l := c.Nodes(); len(l) != 1 || l[0].Name != "b" || c.Tampered() {
				t.Errorf("%v", l)
			}
		}
		late := client(t, s, 1)
		ask(late, fetch(late), api.ErrGone)
		ask(late, late.Join, api.OK)
		ask(late, fetch(late), api.OK)
		if !reflect.DeepEqual(late.Nodes(), a.Nodes()) {
			t.Error("the late one shows another tree")
		}
	}
}

// Padded, and of the sizes of layer 14.
func TestSizesOfWhatIsSent(t *testing.T) {
	b := bookOf(t, vault.Ideal("seed"))
	c := b.admin()
	for k := range 30 {
		o, e := c.Edit(api.Op{Kind: api.OpCreate, Name: strings.Repeat("\U0001d11e", 1+k)})
		if e != api.OK {
			t.Fatal(e)
		}
		f := b.sent(c)
		n, _ := pad.Size(1 + 1 + 6 + 6 + 34 + 2 + 22 + 2 + 2 + len(o.Name) + 1 + 1)
		if len(f.Blob) != n+16 {
			t.Errorf("%d: a Blob of %d bytes, not %d", k, len(f.Blob), n+16)
		}
	}
}

// In whatever group it was sealed, who is a member is what the wraps say.
func TestGroupsOfWraps(t *testing.T) {
	b := bookOf(t, vault.Real())
	c := b.admin()
	for who := 2; who <= 6; who++ {
		control(t, c, api.RecAdd, who)
	}
	for range 5 {
		b.sent(c)
	}
	g := c.Group()
	for who := 1; who <= 6; who++ {
		if !group.In(g, who) {
			t.Errorf("%d is no member", who)
		}
	}
}
