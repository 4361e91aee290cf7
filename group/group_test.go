package group

import (
	"encoding/binary"
	"fmt"
	"math"
	"math/rand"
	"slices"
	"strings"
	"sync"
	"testing"

	"samphire/api"
	"samphire/keys"
	"samphire/wire"
)

const last = 1<<40 - 1

// wild are numbers at all edges, of any kind.
var wild = []int{math.MinInt, math.MinInt + 1, -1 << 40, -256, -7, -6, -1, 0, 1, 2, 3, 4, 5, 6, 7, 8, 255, 256, 257, 258, 499, 500, 501, 1<<32 + 1, last - 1, last, last + 1, 1<<40 + 1, 1 << 48, math.MaxInt - 1, math.MaxInt}

// noMembers are numbers that are none of 1 to 6: of some the lowest bits alone would do.
var noMembers = []int{0, 7, 8, -1, -2, -6, -255, 1 << 8, 1<<8 + 1, 1<<16 + 1, 1<<32 + 1, math.MinInt, math.MinInt + 1, math.MaxInt}

var head = strings.Repeat("h", 32)

// groupOf is a group in which these are members now, with Counts that are all others.
func groupOf(epoch, ops int, in ...int) api.Group {
	g := api.Group{Epoch: epoch, Ops: ops}
	for who := 1; who <= 6; who++ {
		g.Members = append(g.Members, api.Member{Who: who, Count: 10 * who, In: slices.Contains(in, who)})
	}
	return g
}

// cloned is a group with a list of its own.
func cloned(g api.Group) api.Group {
	g.Members = slices.Clone(g.Members)
	return g
}

// with is a group that is another one, but for what is changed.
func with(g api.Group, change func(g *api.Group)) api.Group {
	g = cloned(g)
	change(&g)
	return g
}

// counted is a group in which a member has a Count.
func counted(g api.Group, who, count int) api.Group {
	return with(g, func(g *api.Group) { g.Members[who-1].Count = count })
}

func sameGroup(a, b api.Group) bool {
	return a.Epoch == b.Epoch && a.Ops == b.Ops && slices.Equal(a.Members, b.Members)
}

// short is a thing as a test tells it: some may be very long.
func short(x any) string { return fmt.Sprintf("%.300s", fmt.Sprint(x)) }

// op, add, remove and rotate are records that may be.

func op(from, count int) api.Record {
	at := api.Stamp{Time: 9, Who: from}
	return api.Record{Kind: api.RecOp, From: from, Count: count, Seq: 4, Head: head, Op: api.Op{Kind: api.OpCreate, At: at, Node: at, Name: "a"}}
}

func control(kind, from, count, who int) api.Record {
	return api.Record{Kind: kind, From: from, Count: count, Seq: 4, Head: head, Who: who, Wraps: []api.Wrap{{Who: 3, Text: strings.Repeat("w", 48)}}}
}

func add(from, count, who int) api.Record { return control(api.RecAdd, from, count, who) }

func remove(from, count, who int) api.Record { return control(api.RecRemove, from, count, who) }

func rotate(from, count int) api.Record { return control(api.RecRotate, from, count, 0) }

// kinds are one of each.
func kinds(from, count, who int) []api.Record {
	return []api.Record{op(from, count), add(from, count, who), remove(from, count, who), rotate(from, count)}
}

// But for how they are told, the promises' words: what may be, what is behind a record, and what bytes there are.

func within(n, least, most int) bool { return least <= n && n <= most }

func mayGroup(g api.Group) bool {
	if !within(g.Epoch, 1, last) || !within(g.Ops, 0, 500) || len(g.Members) != 6 || !g.Members[0].In {
		return false
	}
	for i, m := range g.Members {
		if m.Who != i+1 || m.Count < 0 || m.Count>>40 != 0 {
			return false
		}
	}
	return true
}

// behind is what Judge must answer.
func behind(g api.Group, epoch int, r api.Record) (api.Group, bool, api.Errno) {
	if !mayGroup(g) || wire.Check(r) != api.OK || g.Members[r.From-1].Count == last || r.Count-g.Members[r.From-1].Count != 1 {
		return api.Group{}, false, api.ErrArg
	}
	if epoch > g.Epoch || epoch < 1 || g.Epoch-epoch > 1 {
		return api.Group{}, false, api.ErrEpoch
	}
	next := cloned(g)
	next.Members[r.From-1].Count = r.Count
	in := map[int]bool{}
	for _, m := range g.Members {
		in[m.Who] = m.In
	}
	byAdmin := r.From == 1 && epoch == g.Epoch && epoch < last
	switch {
	case r.Kind == api.RecOp && in[r.From] && g.Ops < 500:
		next.Ops = g.Ops + 1
	case r.Kind == api.RecAdd && byAdmin && !in[r.Who]:
		next.Epoch, next.Members[r.Who-1].In = g.Epoch+1, true
	case r.Kind == api.RecRemove && byAdmin && in[r.Who] && r.Who > 1:
		next.Epoch, next.Members[r.Who-1].In = g.Epoch+1, false
	case r.Kind == api.RecRotate && byAdmin:
		next.Epoch = g.Epoch + 1
	default:
		return next, false, api.OK
	}
	return next, true, api.OK
}

func numBytes(n int) string { return string(binary.BigEndian.AppendUint64(nil, uint64(n))[2:]) }

// bytesOf are a group's bytes: of one that may not be, too.
func bytesOf(g api.Group) string {
	s := numBytes(g.Epoch) + numBytes(g.Ops)
	for _, m := range g.Members {
		in := "\x00"
		if m.In {
			in = "\x01"
		}
		s += numBytes(m.Count) + in
	}
	return s
}

// groupOfBytes is the group that has these bytes; false, if there is none.
func groupOfBytes(s string) (api.Group, bool) {
	if len(s) != 54 {
		return api.Group{}, false
	}
	num := func(at int) int { return int(binary.BigEndian.Uint64([]byte("\x00\x00" + s[at:at+6]))) }
	g := api.Group{Epoch: num(0), Ops: num(6)}
	for i := range 6 {
		at := 12 + 7*i
		if s[at+6] > 1 {
			return api.Group{}, false
		}
		g.Members = append(g.Members, api.Member{Who: i + 1, Count: num(at), In: s[at+6] == 1})
	}
	if !mayGroup(g) {
		return api.Group{}, false
	}
	return g, true
}

// judges holds that a record is judged so, and that the group that is handed in stands as it was.
func judges(t *testing.T, g api.Group, epoch int, r api.Record, want api.Group, counts bool) {
	t.Helper()
	was := cloned(g)
	got, c, e := Judge(g, epoch, r)
	if !sameGroup(got, want) || !mayGroup(got) || c != counts || e != api.OK {
		t.Errorf("Judge %v, %d, %s: %v %v %d, not %v %v", g, epoch, short(r), got, c, e, want, counts)
	}
	if !sameGroup(g, was) {
		t.Errorf("Judge %d, %s: changed to %v, it was %v", epoch, short(r), g, was)
	}
}

// judgesNot holds that a record is refused so.
func judgesNot(t *testing.T, g api.Group, epoch int, r api.Record, want api.Errno) {
	t.Helper()
	was := cloned(g)
	got, c, e := Judge(g, epoch, r)
	if !sameGroup(got, api.Group{}) || c || e != want {
		t.Errorf("Judge %s, %d, %s: %s %v %d, not %d", short(g), epoch, short(r), short(got), c, e, want)
	}
	if !sameGroup(g, was) {
		t.Errorf("Judge %d, %s: changed to %s", epoch, short(r), short(g))
	}
}

// countsNot holds that a record is judged, but does nothing.
func countsNot(t *testing.T, g api.Group, epoch int, r api.Record) {
	t.Helper()
	judges(t, g, epoch, r, counted(g, r.From, r.Count), false)
}

// ownKeys are six keys of members.
func ownKeys() []string {
	var l []string
	for _, c := range "abcdef" {
		l = append(l, strings.Repeat(string(c), 32))
	}
	return l
}

// wrapsSo holds that a key is wrapped for just those who are members now.
func wrapsSo(t *testing.T, g api.Group, own []string, key string) {
	t.Helper()
	var want []api.Wrap
	for who := 1; who <= 6; who++ {
		if g.Members[who-1].In {
			s, e := keys.Wrap(own[who-1], who, g.Epoch, key)
			if e != api.OK {
				t.Fatalf("keys.Wrap for %d as of %d: %d", who, g.Epoch, e)
			}
			want = append(want, api.Wrap{Who: who, Text: s})
		}
	}
	if l, e := Wraps(g, own, key); !slices.Equal(l, want) || e != api.OK {
		t.Errorf("Wraps %v: %x %d, not %x", g, l, e, want)
	}
}

// wrapsNot holds that nothing is wrapped.
func wrapsNot(t *testing.T, g api.Group, own []string, key string) {
	t.Helper()
	if l, e := Wraps(g, own, key); len(l) != 0 || e != api.ErrArg {
		t.Errorf("Wraps %s, %s, %.80x: %x %d, not ErrArg", short(g), short(own), key, l, e)
	}
}

// putsSo holds that a group has these bytes, and is taken of them.
func putsSo(t *testing.T, g api.Group, want string) {
	t.Helper()
	if s, e := Put(g); s != want || e != api.OK {
		t.Errorf("Put %v: %x %d, not %x", g, s, e, want)
	}
	if x, e := Take(want); !sameGroup(x, g) || e != api.OK {
		t.Errorf("Take %x: %v %d, not %v", want, x, e, g)
	}
}

// takesNot holds that bytes are those of no group.
func takesNot(t *testing.T, s string) {
	t.Helper()
	if g, e := Take(s); !sameGroup(g, api.Group{}) || e != api.ErrForm {
		t.Errorf("Take %.120x: %v %d, not ErrForm", s, g, e)
	}
}

// isGroup holds that all functions have a group as one that may be.
func isGroup(t *testing.T, g api.Group) {
	t.Helper()
	if e := Check(g); e != api.OK {
		t.Errorf("Check %v: %d", g, e)
	}
	for _, m := range g.Members {
		for _, r := range kinds(m.Who, m.Count+1, 3) {
			if m.Count == last {
				judgesNot(t, g, g.Epoch, r, api.ErrArg)
				continue
			}
			want, counts, _ := behind(g, g.Epoch, r)
			judges(t, g, g.Epoch, r, want, counts)
		}
	}
	wrapsSo(t, g, ownKeys(), head)
	putsSo(t, g, bytesOf(g))
}

// isNone holds that all functions refuse a group.
func isNone(t *testing.T, g api.Group) {
	t.Helper()
	if e := Check(g); e != api.ErrArg {
		t.Errorf("Check %s: %d, not ErrArg", short(g), e)
	}
	for who := 1; who <= 6; who++ {
		count := 1
		if i := slices.IndexFunc(g.Members, func(m api.Member) bool { return m.Who == who }); i >= 0 && g.Members[i].Count < last {
			count = max(1, g.Members[i].Count+1)
		}
		for _, r := range kinds(who, count, 3) {
			judgesNot(t, g, g.Epoch, r, api.ErrArg)
			judgesNot(t, g, max(1, g.Epoch-1), r, api.ErrArg)
		}
	}
	wrapsNot(t, g, ownKeys(), head)
	if s, e := Put(g); s != "" || e != api.ErrArg {
		t.Errorf("Put %s: %.120x %d, not ErrArg", short(g), s, e)
	}
}

// Gp1.

func TestNew(t *testing.T) {
	g := New()
	if g.Epoch != 1 || g.Ops != 0 || len(g.Members) != 6 {
		t.Fatal(g)
	}
	for i, m := range g.Members {
		if m.Who != i+1 || m.Count != 0 || m.In != (i == 0) {
			t.Error(i, m)
		}
	}
	isGroup(t, g)
}

// Each of these pairs of groups differs in one number alone: one may not be, its neighbour may.

func TestEpochs(t *testing.T) {
	epoch := func(n int) api.Group { return groupOf(n, 7, 1, 2, 4) }
	for _, n := range []int{1, 2, 258, last - 1, last} {
		isGroup(t, epoch(n))
	}
	for _, n := range []int{0, -1, -2, -last, math.MinInt, last + 1, last + 2, 1<<40 + 1, 1<<48 + 1, math.MaxInt} {
		isNone(t, epoch(n))
	}
}

func TestOps(t *testing.T) {
	ops := func(n int) api.Group { return groupOf(3, n, 1, 2, 4) }
	for _, n := range []int{0, 1, 255, 256, 499, 500} {
		isGroup(t, ops(n))
	}
	for _, n := range []int{-1, -2, math.MinInt, 501, 502, 512, 1 << 16, 1<<32 + 1, last, 1 << 48, math.MaxInt} {
		isNone(t, ops(n))
	}
}

func TestHowManyMembers(t *testing.T) {
	g := groupOf(3, 7, 1, 2, 4)
	isGroup(t, g)
	for n := range 6 {
		isNone(t, with(g, func(g *api.Group) { g.Members = g.Members[:n] }))
		isNone(t, with(g, func(g *api.Group) { g.Members = g.Members[:n:n] }))
		isNone(t, with(g, func(g *api.Group) { g.Members = slices.Delete(g.Members, n, n+1) }))
	}
	isNone(t, with(g, func(g *api.Group) { g.Members = nil }))
	for _, m := range []api.Member{{Who: 7}, {Who: 7, Count: 3, In: true}, {}, {Who: 6}, {Who: 1, In: true}} {
		isNone(t, with(g, func(g *api.Group) { g.Members = append(g.Members, m) }))
	}
	isNone(t, with(g, func(g *api.Group) { g.Members = slices.Repeat(g.Members, 1<<15) }))
}

func TestWhoInItsPlace(t *testing.T) {
	g := groupOf(3, 7, 1, 2, 3, 4, 5, 6)
	isGroup(t, g)
	for i := range 6 {
		for _, who := range append([]int{1, 2, 3, 4, 5, 6}, noMembers...) {
			turned := with(g, func(g *api.Group) { g.Members[i].Who = who })
			if who == i+1 {
				isGroup(t, turned)
			} else {
				isNone(t, turned)
			}
		}
		if i > 0 {
			isNone(t, with(g, func(g *api.Group) { g.Members[i-1], g.Members[i] = g.Members[i], g.Members[i-1] }))
		}
	}
	isNone(t, with(g, func(g *api.Group) { slices.Reverse(g.Members) }))
}

func TestCounts(t *testing.T) {
	g := groupOf(3, 7, 1, 2, 4)
	for who := 1; who <= 6; who++ {
		for _, n := range []int{0, 1, 258, last - 1, last} {
			isGroup(t, counted(g, who, n))
		}
		for _, n := range []int{-1, -2, -last, math.MinInt, last + 1, last + 2, 1<<40 + 1, 1 << 48, math.MaxInt} {
			isNone(t, counted(g, who, n))
		}
	}
}

func TestTheAdminIsIn(t *testing.T) {
	for _, in := range [][]int{{}, {2}, {2, 3, 4, 5, 6}, {6}} {
		isNone(t, groupOf(3, 7, in...))
		isGroup(t, groupOf(3, 7, append(in, 1)...))
	}
}

func TestIn(t *testing.T) {
	for set := range 1 << 5 {
		in := []int{1}
		for who := 2; who <= 6; who++ {
			if set>>(who-2)&1 == 1 {
				in = append(in, who)
			}
		}
		g := groupOf(3, 7, in...)
		isGroup(t, g)
		for who := 1; who <= 6; who++ {
			if got := In(g, who); got != slices.Contains(in, who) {
				t.Errorf("In %v, %d: %v", g, who, got)
			}
		}
		for _, who := range noMembers {
			if In(g, who) {
				t.Errorf("In %v, %d", g, who)
			}
		}
	}
}

// Of a group that may not be, it is asked by the same words.
func TestInOfWhatMayNotBe(t *testing.T) {
	for _, c := range []struct {
		l    []api.Member
		who  int
		want bool
	}{
		{nil, 1, false},
		{nil, 0, false},
		{[]api.Member{{Who: 3, In: true}}, 3, true},
		{[]api.Member{{Who: 3, In: true}}, 1, false},
		{[]api.Member{{Who: 3}}, 3, false},
		{[]api.Member{{Who: 2, In: true}, {Who: 1}}, 2, true},
		{[]api.Member{{Who: 2, In: true}, {Who: 1}}, 1, false},
		{[]api.Member{{Who: 2}, {Who: 2, In: true}}, 2, true},
		{[]api.Member{{Who: 1, In: true}}[:0], 1, false},
	} {
		if got := In(api.Group{Members: c.l}, c.who); got != c.want {
			t.Errorf("In %v, %d: %v", c.l, c.who, got)
		}
	}
}

// Gp2.

func TestExample(t *testing.T) {
	g := New()
	next := func(epoch int, r api.Record, counts bool) {
		t.Helper()
		x, c, e := Judge(g, epoch, r)
		if c != counts || e != api.OK {
			t.Error(short(r), c, e)
		}
		g = x
	}
	next(1, add(1, 1, 2), true)
	if g.Epoch != 2 || !In(g, 2) {
		t.Error(g)
	}
	next(2, op(2, 1), true)
	next(2, remove(1, 2, 2), true)
	next(2, op(2, 2), false)
	if want := (api.Group{Epoch: 3, Ops: 1, Members: []api.Member{{Who: 1, Count: 2, In: true}, {Who: 2, Count: 2}, {Who: 3}, {Who: 4}, {Who: 5}, {Who: 6}}}); !sameGroup(g, want) {
		t.Error(g)
	}
}

func TestRecordsThatMayNotBe(t *testing.T) {
	g := groupOf(3, 7, 1, 2, 4)
	change := func(r api.Record, f func(r *api.Record)) api.Record {
		f(&r)
		return r
	}
	for _, r := range kinds(1, 11, 3) {
		if want, counts, e := behind(g, 3, r); e == api.OK {
			judges(t, g, 3, r, want, counts)
		} else {
			t.Error(short(r), e)
		}
		for _, n := range noMembers {
			judgesNot(t, g, 3, change(r, func(r *api.Record) { r.From, r.Op.At.Who = n, 0 }), api.ErrArg)
		}
		for _, n := range []int{-1, math.MinInt, last + 1, math.MaxInt} {
			judgesNot(t, g, 3, change(r, func(r *api.Record) { r.Seq = n }), api.ErrArg)
		}
		for _, n := range []int{0, 5, -1, 257, math.MinInt, math.MaxInt} {
			judgesNot(t, g, 3, change(r, func(r *api.Record) { r.Kind = n }), api.ErrArg)
		}
		for _, s := range []string{"", head[1:], head + "h"} {
			judgesNot(t, g, 3, change(r, func(r *api.Record) { r.Head = s }), api.ErrArg)
		}
		for _, w := range [][]api.Wrap{{{Who: 0, Text: strings.Repeat("w", 48)}}, {{Who: 1, Text: strings.Repeat("w", 47)}}, {{Who: 2, Text: strings.Repeat("w", 48)}, {Who: 1, Text: strings.Repeat("w", 48)}}} {
			judgesNot(t, g, 3, change(r, func(r *api.Record) { r.Wraps = w }), api.ErrArg)
		}
	}
	for _, r := range []api.Record{
		{},
		change(op(1, 11), func(r *api.Record) { r.Op = api.Op{} }),
		change(op(1, 11), func(r *api.Record) { r.Op.Name = "" }),
		change(op(1, 11), func(r *api.Record) { r.Op.At.Who, r.Op.Node.Who = 2, 2 }),
		change(op(1, 11), func(r *api.Record) { r.Who = 2 }),
		change(op(1, 11), func(r *api.Record) { r.Wraps = rotate(1, 11).Wraps }),
		add(1, 11, 0), add(1, 11, 7), add(1, 11, -1), add(1, 11, 1<<8+3),
		remove(1, 11, 0), remove(1, 11, 7), remove(1, 11, -1), remove(1, 11, 1<<8+2),
		control(api.RecRotate, 1, 11, 1),
		change(rotate(1, 11), func(r *api.Record) { r.Op = op(1, 11).Op }),
		change(add(1, 11, 3), func(r *api.Record) { r.Op.Name = "a" }),
	} {
		judgesNot(t, g, 3, r, api.ErrArg)
	}
}

func TestTheCountThatIsNext(t *testing.T) {
	for who := 1; who <= 6; who++ {
		for _, n := range []int{0, 1, 2, 255, 258, 1 << 32, last - 2, last - 1} {
			g := counted(groupOf(3, 7, 1, 2, 4), who, n)
			for i, r := range kinds(who, n+1, 3) {
				want, counts, _ := behind(g, 3, r)
				judges(t, g, 3, r, want, counts)
				for _, m := range []int{n, n + 2, n - 1, -n, n + 3, n + 256, n + 1 + 1<<40, 0, math.MinInt, math.MaxInt, n + 1 + 10} {
					judgesNot(t, g, 3, kinds(who, m, 3)[i], api.ErrArg)
				}
			}
		}
		// Behind MaxTime there is none.
		g := counted(groupOf(3, 7, 1, 2, 4), who, last)
		for _, n := range []int{0, 1, last - 1, last, last + 1, last + 2, 1<<40 + 1} {
			for _, r := range kinds(who, n, 3) {
				judgesNot(t, g, 3, r, api.ErrArg)
			}
		}
	}
}

// Each sender has numbers of its own.
func TestTheCountOfAnotherOne(t *testing.T) {
	g := groupOf(3, 7, 1, 2, 3, 4, 5, 6)
	for who := 1; who <= 6; who++ {
		for other := 1; other <= 6; other++ {
			for _, r := range kinds(who, 10*other+1, 3) {
				if who == other {
					want, counts, _ := behind(g, 3, r)
					judges(t, g, 3, r, want, counts)
				} else {
					judgesNot(t, g, 3, r, api.ErrArg)
				}
			}
		}
	}
}

func TestEpochsOfRecords(t *testing.T) {
	for _, epoch := range []int{1, 2, 3, 258, 1 << 32, last - 1, last} {
		g := groupOf(epoch, 7, 1, 2, 4)
		for who := 1; who <= 6; who++ {
			for _, r := range kinds(who, 10*who+1, 3) {
				for _, n := range []int{epoch + 1, epoch + 2, epoch - 2, epoch - 3, 0, -1, -epoch, epoch + 256, epoch + 1<<40, math.MinInt, math.MinInt + 1, math.MaxInt} {
					judgesNot(t, g, n, r, api.ErrEpoch)
				}
				for _, n := range []int{epoch, max(1, epoch-1)} {
					want, counts, _ := behind(g, n, r)
					judges(t, g, n, r, want, counts)
				}
			}
		}
	}
}

func TestTheFirstErrorHolds(t *testing.T) {
	g := groupOf(3, 7, 1, 2, 4)
	for _, n := range []int{4, 1, 0, -1, math.MinInt, math.MaxInt} {
		judgesNot(t, g, n, op(2, 21), api.ErrEpoch)
		judgesNot(t, g, n, op(2, 20), api.ErrArg)
		judgesNot(t, g, n, op(2, 22), api.ErrArg)
		judgesNot(t, counted(g, 2, last), n, op(2, last+1), api.ErrArg)
		judgesNot(t, g, n, add(1, 11, 7), api.ErrArg)
		judgesNot(t, g, n, api.Record{}, api.ErrArg)
		judgesNot(t, with(g, func(g *api.Group) { g.Members[0].In = false }), n, op(2, 21), api.ErrArg)
		judgesNot(t, with(g, func(g *api.Group) { g.Ops = 501 }), n, op(2, 21), api.ErrArg)
	}
	judgesNot(t, groupOf(0, 7, 1, 2, 4), 0, op(2, 21), api.ErrArg)
	judgesNot(t, groupOf(1, 7, 1, 2, 4), 0, op(2, 20), api.ErrArg)
}

func TestOperations(t *testing.T) {
	for who := 1; who <= 6; who++ {
		all, alone := groupOf(3, 0, 1, 2, 3, 4, 5, 6), groupOf(3, 0, 1, who)
		for _, epoch := range []int{3, 2} {
			for _, ops := range []int{0, 1, 7, 255, 498, 499} {
				for _, g := range []api.Group{all, alone} {
					g.Ops = ops
					want := counted(g, who, 10*who+1)
					want.Ops = ops + 1
					judges(t, g, epoch, op(who, 10*who+1), want, true)
				}
			}
			// As many as there may be.
			all.Ops, alone.Ops = 500, 500
			countsNot(t, all, epoch, op(who, 10*who+1))
			countsNot(t, alone, epoch, op(who, 10*who+1))
			// Of one who is no member.
			if who > 1 {
				for _, ops := range []int{0, 7, 499, 500} {
					countsNot(t, with(all, func(g *api.Group) { g.Ops, g.Members[who-1].In = ops, false }), epoch, op(who, 10*who+1))
				}
			}
		}
	}
	// With the Epoch 1, and with MaxTime: there operations count as well.
	for _, n := range []int{1, last} {
		want := counted(groupOf(n, 8, 1, 2), 2, 21)
		judges(t, groupOf(n, 7, 1, 2), n, op(2, 21), want, true)
		judges(t, groupOf(n, 7, 1, 2), max(1, n-1), op(2, 21), want, true)
	}
}

// Each kind of operation is one.
func TestKindsOfOperations(t *testing.T) {
	g, at, id := groupOf(3, 7, 1, 2, 4), api.Stamp{Time: last, Who: 4}, api.Stamp{Time: 1, Who: 6}
	for _, o := range []api.Op{
		{Kind: api.OpCreate, At: at, Node: at, Parent: id, Name: "é"},
		{Kind: api.OpMove, At: at, Node: id},
		{Kind: api.OpRename, At: at, Node: id, Name: "b"},
		{Kind: api.OpSet, At: at, Node: id},
		{Kind: api.OpTrash, At: at, Node: id},
	} {
		r := op(4, 41)
		r.Op = o
		want := counted(g, 4, 41)
		want.Ops = 8
		judges(t, g, 3, r, want, true)
	}
}

// turned is a group that is one epoch further, and in which someone is a member, or is none.
func turned(g api.Group, count, who int, in bool) api.Group {
	return with(counted(g, 1, count), func(g *api.Group) { g.Epoch, g.Members[who-1].In = g.Epoch+1, in })
}

func TestAdditions(t *testing.T) {
	g := groupOf(3, 7, 1, 2, 4)
	for _, epoch := range []int{1, 2, 3, 258, last - 1} {
		g.Epoch = epoch
		for _, who := range []int{3, 5, 6} {
			judges(t, g, epoch, add(1, 11, who), turned(g, 11, who, true), true)
			for from := 2; from <= 6; from++ {
				countsNot(t, g, epoch, add(from, 10*from+1, who))
			}
			if epoch > 1 {
				countsNot(t, g, epoch-1, add(1, 11, who))
			}
		}
		// Those who are members already, the admin among them.
		for _, who := range []int{1, 2, 4} {
			for from := 1; from <= 6; from++ {
				countsNot(t, g, epoch, add(from, 10*from+1, who))
			}
		}
	}
	// How many operations there were does not matter, nor what is wrapped.
	g = groupOf(3, 500, 1)
	judges(t, g, 3, add(1, 11, 2), turned(g, 11, 2, true), true)
	judges(t, g, 3, api.Record{Kind: api.RecAdd, From: 1, Count: 11, Head: head, Who: 2}, turned(g, 11, 2, true), true)
	// Behind MaxTime there is no epoch.
	g.Epoch = last
	for who := 1; who <= 6; who++ {
		countsNot(t, g, last, add(1, 11, who))
		countsNot(t, g, last-1, add(1, 11, who))
	}
}

func TestRemovals(t *testing.T) {
	g := groupOf(3, 7, 1, 2, 4, 6)
	for _, epoch := range []int{1, 2, 3, 258, last - 1} {
		g.Epoch = epoch
		for _, who := range []int{2, 4, 6} {
			judges(t, g, epoch, remove(1, 11, who), turned(g, 11, who, false), true)
			// Of himself, too.
			for from := 2; from <= 6; from++ {
				countsNot(t, g, epoch, remove(from, 10*from+1, who))
			}
			if epoch > 1 {
				countsNot(t, g, epoch-1, remove(1, 11, who))
			}
		}
		// The admin, and those who are no members.
		for _, who := range []int{1, 3, 5} {
			for from := 1; from <= 6; from++ {
				countsNot(t, g, epoch, remove(from, 10*from+1, who))
			}
		}
	}
	g = groupOf(3, 500, 1, 2)
	judges(t, g, 3, remove(1, 11, 2), turned(g, 11, 2, false), true)
	judges(t, g, 3, api.Record{Kind: api.RecRemove, From: 1, Count: 11, Head: head, Who: 2}, turned(g, 11, 2, false), true)
	g.Epoch = last
	for who := 1; who <= 6; who++ {
		countsNot(t, g, last, remove(1, 11, who))
		countsNot(t, g, last-1, remove(1, 11, who))
	}
}

func TestRotations(t *testing.T) {
	for _, in := range [][]int{{1}, {1, 2, 4}, {1, 2, 3, 4, 5, 6}} {
		for _, epoch := range []int{1, 2, 3, 258, last - 1} {
			g := groupOf(epoch, 7, in...)
			judges(t, g, epoch, rotate(1, 11), turned(g, 11, 1, true), true)
			for from := 2; from <= 6; from++ {
				countsNot(t, g, epoch, rotate(from, 10*from+1))
			}
			if epoch > 1 {
				countsNot(t, g, epoch-1, rotate(1, 11))
			}
		}
		g := groupOf(last, 7, in...)
		countsNot(t, g, last, rotate(1, 11))
		countsNot(t, g, last-1, rotate(1, 11))
	}
	g := groupOf(3, 500, 1, 2)
	judges(t, g, 3, rotate(1, 11), turned(g, 11, 1, true), true)
	judges(t, g, 3, api.Record{Kind: api.RecRotate, From: 1, Count: 11, Head: head}, turned(g, 11, 1, true), true)
}

// Gp3.

func TestWraps(t *testing.T) {
	for set := range 1 << 5 {
		for _, epoch := range []int{1, 2, 258, last} {
			g := groupOf(epoch, 7, 1)
			own := ownKeys()
			for who := 2; who <= 6; who++ {
				g.Members[who-1].In = set>>(who-2)&1 == 1
				if !g.Members[who-1].In {
					own[who-1] = []string{"", "short", strings.Repeat("x", 33)}[epoch%3]
				}
			}
			wrapsSo(t, g, own, strings.Repeat("k", 32))
		}
	}
}

// What is wrapped is unwrapped by each who is a member, and by the others not.
func TestWrapsAreUnwrapped(t *testing.T) {
	g, own, key := groupOf(9, 7, 1, 3, 6), ownKeys(), strings.Repeat("k", 32)
	l, e := Wraps(g, own, key)
	if len(l) != 3 || e != api.OK {
		t.Fatal(l, e)
	}
	for i, who := range []int{1, 3, 6} {
		for other := 1; other <= 6; other++ {
			for _, epoch := range []int{8, 9, 10} {
				k, e := keys.Unwrap(own[other-1], other, epoch, l[i].Text)
				if fits := other == who && epoch == 9; l[i].Who != who || fits && (k != key || e != api.OK) || !fits && e != api.ErrSeal {
					t.Errorf("%d by %d as of %d: %x %d", l[i].Who, other, epoch, k, e)
				}
			}
		}
	}
	// So they may stand in a record.
	if r := rotate(1, 1); wire.Check(api.Record{Kind: r.Kind, From: 1, Count: 1, Head: head, Wraps: l}) != api.OK {
		t.Error(l)
	}
}

func TestWrapsOfTextsThatAreNoKeys(t *testing.T) {
	for _, g := range []api.Group{New(), groupOf(9, 7, 1, 3, 6), groupOf(9, 7, 1, 2, 3, 4, 5, 6)} {
		wrapsSo(t, g, ownKeys(), strings.Repeat("k", 32))
		for _, n := range []int{0, 1, 31, 33, 48, 64, 32 + 1<<8, 32 + 1<<16} {
			wrapsNot(t, g, ownKeys(), strings.Repeat("k", n))
		}
	}
}

func TestWrapsByKeysThatAreNone(t *testing.T) {
	key := strings.Repeat("k", 32)
	g := groupOf(9, 7, 1, 3, 6)
	for who := 1; who <= 6; who++ {
		for _, n := range []int{0, 1, 31, 33, 64, 32 + 1<<8} {
			own := ownKeys()
			own[who-1] = strings.Repeat("o", n)
			if g.Members[who-1].In {
				wrapsNot(t, g, own, key)
			} else {
				wrapsSo(t, g, own, key)
			}
		}
	}
}

func TestWrapsByTooFewKeys(t *testing.T) {
	key := strings.Repeat("k", 32)
	for most := 1; most <= 6; most++ {
		g := groupOf(9, 7, 1, most)
		for n := range 7 {
			// With and without room behind the list's end, in which the keys stand.
			for _, own := range [][]string{ownKeys()[:n], ownKeys()[:n:n]} {
				if n < most {
					wrapsNot(t, g, own, key)
				} else {
					wrapsSo(t, g, own, key)
				}
			}
		}
	}
	wrapsNot(t, New(), nil, key)
	// What stands behind the sixth is nobody's.
	wrapsSo(t, groupOf(9, 7, 1, 2, 3, 4, 5, 6), append(ownKeys(), "", "short", strings.Repeat("o", 32)), key)
}

func TestByteForByte(t *testing.T) {
	putsSo(t, New(), "\x00\x00\x00\x00\x00\x01"+"\x00\x00\x00\x00\x00\x00"+"\x00\x00\x00\x00\x00\x00\x01"+strings.Repeat("\x00", 35))
	putsSo(t,
		api.Group{Epoch: 0x0102030405, Ops: 500, Members: []api.Member{{Who: 1, Count: last, In: true}, {Who: 2, Count: 258}, {Who: 3, Count: 0x0605040302, In: true}, {Who: 4, In: true}, {Who: 5, Count: 1}, {Who: 6, Count: 255, In: true}}},
		"\x00\x01\x02\x03\x04\x05"+"\x00\x00\x00\x00\x01\xf4"+
			"\x00\xff\xff\xff\xff\xff\x01"+"\x00\x00\x00\x00\x01\x02\x00"+"\x00\x06\x05\x04\x03\x02\x01"+
			"\x00\x00\x00\x00\x00\x00\x01"+"\x00\x00\x00\x00\x00\x01\x00"+"\x00\x00\x00\x00\x00\xff\x01")
	putsSo(t,
		api.Group{Epoch: last, Members: []api.Member{{Who: 1, In: true}, {Who: 2}, {Who: 3}, {Who: 4}, {Who: 5}, {Who: 6, Count: last}}},
		"\x00\xff\xff\xff\xff\xff"+strings.Repeat("\x00", 12)+"\x01"+strings.Repeat("\x00", 29)+"\xff\xff\xff\xff\xff\x00")
}

func TestBeginningsAndMore(t *testing.T) {
	for _, g := range []api.Group{New(), groupOf(9, 500, 1, 3, 6), groupOf(last, 0, 1, 2, 3, 4, 5, 6)} {
		s := bytesOf(g)
		putsSo(t, g, s)
		for n := range s {
			takesNot(t, s[:n])
			takesNot(t, s[n+1:])
		}
		for _, more := range []string{"\x00", "\x01", "\xff", "\x00\x00\x00\x00\x00\x00\x00", s} {
			takesNot(t, s+more)
			takesNot(t, more+s)
		}
	}
	takesNot(t, strings.Repeat("\x00", 54))
	takesNot(t, strings.Repeat("\x00", 1<<16+1))
}

// turnedBytes are bytes with others at a place.
func turnedBytes(s string, at int, other string) string { return s[:at] + other + s[at+len(other):] }

func TestBytesOfGroupsThatMayNotBe(t *testing.T) {
	g := groupOf(9, 7, 1, 3, 6)
	s := bytesOf(g)
	for _, n := range []int{1, last} {
		x := with(g, func(g *api.Group) { g.Epoch = n })
		putsSo(t, x, turnedBytes(s, 0, numBytes(n)))
	}
	for _, n := range []int{0, last + 1, 1<<48 - 1} {
		takesNot(t, turnedBytes(s, 0, numBytes(n)))
	}
	for _, n := range []int{0, 500} {
		x := with(g, func(g *api.Group) { g.Ops = n })
		putsSo(t, x, turnedBytes(s, 6, numBytes(n)))
	}
	for _, n := range []int{501, 1 << 16, last, last + 1, 1<<48 - 1} {
		takesNot(t, turnedBytes(s, 6, numBytes(n)))
	}
	for who := 1; who <= 6; who++ {
		at := 12 + 7*(who-1)
		for _, n := range []int{0, last} {
			putsSo(t, counted(g, who, n), turnedBytes(s, at, numBytes(n)))
		}
		for _, n := range []int{last + 1, last + 1 + 10*who, 1<<48 - 1} {
			takesNot(t, turnedBytes(s, at, numBytes(n)))
		}
		for n := 2; n < 256; n++ {
			takesNot(t, turnedBytes(s, at+6, string([]byte{byte(n)})))
		}
		if who > 1 {
			putsSo(t, with(g, func(g *api.Group) { g.Members[who-1].In = true }), turnedBytes(s, at+6, "\x01"))
			putsSo(t, with(g, func(g *api.Group) { g.Members[who-1].In = false }), turnedBytes(s, at+6, "\x00"))
		}
	}
	takesNot(t, turnedBytes(s, 18, "\x00"))
}

// takesLikewise holds that bytes are taken as by the other way, and that what is taken is put as just these.
func takesLikewise(t *testing.T, s string) bool {
	t.Helper()
	g, fine := groupOfBytes(s)
	if fine {
		putsSo(t, g, s)
	} else {
		takesNot(t, s)
	}
	return fine
}

func TestEveryByteTurned(t *testing.T) {
	for _, g := range []api.Group{New(), groupOf(258, 499, 1, 3, 6), groupOf(last, 500, 1, 2, 3, 4, 5, 6)} {
		s, fine := bytesOf(g), 0
		for at := range s {
			for n := range 256 {
				if takesLikewise(t, turnedBytes(s, at, string([]byte{byte(n)}))) {
					fine++
				}
			}
		}
		// The five low bytes of seven numbers may be any, but for an Epoch of 0; few others may be turned.
		if fine < 35*256-1 || fine > 37*256 {
			t.Error("may be:", fine)
		}
	}
}

// drawnGroup is one that may be.
func drawnGroup(r *rand.Rand) api.Group {
	num := func() int {
		if r.Intn(3) == 0 {
			return []int{0, 1, 255, 256, last - 1, last}[r.Intn(6)]
		}
		return r.Intn(1 << (1 + r.Intn(40)))
	}
	g := api.Group{Epoch: max(1, num()), Ops: []int{0, 1, 498, 499, 500, r.Intn(501)}[r.Intn(6)]}
	for who := 1; who <= 6; who++ {
		g.Members = append(g.Members, api.Member{Who: who, Count: num(), In: who == 1 || r.Intn(2) == 0})
	}
	return g
}

func TestDrawnGroupsAsBytes(t *testing.T) {
	r := rand.New(rand.NewSource(201))
	seen := map[string]api.Group{}
	for range 5000 {
		g := drawnGroup(r)
		s := bytesOf(g)
		putsSo(t, g, s)
		if was, there := seen[s]; there && !sameGroup(was, g) {
			t.Errorf("%v and %v: %x", was, g, s)
		}
		seen[s] = g
		// A byte, or two of them, drawn anew.
		b := []byte(s)
		for range 1 + r.Intn(2) {
			b[r.Intn(len(b))] = byte(r.Intn(256))
		}
		takesLikewise(t, string(b))
		takesLikewise(t, s[:r.Intn(len(s))]+string(b[:r.Intn(len(b))]))
	}
	for range 5000 {
		b := make([]byte, []int{54, 54, 54, r.Intn(120)}[r.Intn(4)])
		r.Read(b)
		takesLikewise(t, string(b))
	}
}

// Gp4.

// drawnRecord is one that may be; often with the Count that is next.
func drawnRecord(r *rand.Rand, g api.Group) api.Record {
	from := max(1, r.Intn(12)-5)
	count := g.Members[from-1].Count + 1
	if r.Intn(5) == 0 {
		count += r.Intn(5) - 2
	}
	return kinds(from, count, 1+r.Intn(6))[r.Intn(4)]
}

// sent is what tells records of a sender apart.
type sent struct{ from, count int }

// history is what a test keeps of records that were judged one behind the other.
type history struct {
	judged map[sent]bool
	out    map[int]bool
}

// holds tells what of Gp4 does not hold of a group and of the one behind a record.
func (h history) holds(was, g api.Group, r api.Record, counts bool) string {
	if g.Epoch < was.Epoch || g.Ops < was.Ops {
		return "Epoch or Ops fell"
	}
	for i, m := range g.Members {
		if m.Count < was.Members[i].Count {
			return "a Count fell"
		}
	}
	if h.judged[sent{r.From, r.Count}] {
		return "judged twice"
	}
	if counts && h.out[r.From] {
		return "counts, but is no member"
	}
	return ""
}

// note keeps what was judged.
func (h history) note(r api.Record, counts bool) {
	h.judged[sent{r.From, r.Count}] = true
	switch {
	case counts && r.Kind == api.RecRemove:
		h.out[r.Who] = true
	case counts && r.Kind == api.RecAdd:
		h.out[r.Who] = false
	}
}

func TestDrawnRecordsOneBehindTheOther(t *testing.T) {
	yes, removed, back := 0, 0, 0
	for seed := range int64(40) {
		r := rand.New(rand.NewSource(202 + seed))
		g := New()
		h := history{judged: map[sent]bool{}, out: map[int]bool{2: true, 3: true, 4: true, 5: true, 6: true}}
		if seed%4 == 0 {
			g.Epoch, g.Ops = last-40, 480
		}
		var old []api.Record
		for range 400 {
			epoch, x := g.Epoch+r.Intn(2)-r.Intn(3), drawnRecord(r, g)
			got, counts, e := Judge(g, epoch, x)
			want, should, f := behind(g, epoch, x)
			if !sameGroup(got, want) || counts != should || e != f {
				t.Fatalf("Judge %v, %d, %s: %v %v %d, not %v %v %d", g, epoch, short(x), got, counts, e, want, should, f)
			}
			if e != api.OK {
				continue
			}
			if wrong := h.holds(g, got, x, counts); wrong != "" {
				t.Errorf("%s: Judge %v, %d, %s: %v %v", wrong, g, epoch, short(x), got, counts)
			}
			h.note(x, counts)
			if counts {
				yes++
			}
			if counts && x.Kind == api.RecRemove {
				removed++
			}
			if counts && x.Kind == api.RecAdd && g.Members[x.Who-1].Count > 0 {
				back++
			}
			g, old = got, append(old, x)
			// None that was judged is judged again, nor another one with its sender and Count.
			again := old[r.Intn(len(old))]
			judgesNot(t, g, g.Epoch, x, api.ErrArg)
			judgesNot(t, g, g.Epoch, again, api.ErrArg)
			for _, y := range kinds(again.From, again.Count, 1+r.Intn(6)) {
				judgesNot(t, g, g.Epoch, y, api.ErrArg)
			}
		}
	}
	if yes < 2000 || removed < 150 || back < 200 {
		t.Error("too few:", yes, removed, back)
	}
}

// Who was removed counts no more, whatever it sends, till it is added again.
func TestRemovedAndAddedAgain(t *testing.T) {
	g := groupOf(3, 7, 1, 2, 4)
	step := func(epoch int, r api.Record, counts bool) {
		t.Helper()
		want, _, _ := behind(g, epoch, r)
		judges(t, g, epoch, r, want, counts)
		g, _, _ = Judge(g, epoch, r)
	}
	step(3, op(4, 41), true)
	step(3, remove(1, 11, 4), true)
	step(3, op(4, 42), false)
	step(4, op(4, 43), false)
	step(4, rotate(4, 44), false)
	step(4, add(4, 45, 4), false)
	step(4, rotate(1, 12), true)
	step(5, op(4, 46), false)
	step(5, add(1, 13, 4), true)
	// Its numbers go on.
	judgesNot(t, g, 6, op(4, 1), api.ErrArg)
	step(5, op(4, 47), true)
	step(6, op(4, 48), true)
	if want := counted(counted(groupOf(6, 10, 1, 2, 4), 1, 13), 4, 48); !sameGroup(g, want) {
		t.Error(g)
	}
}

// R1 to R4.

func TestWildGroupsEnd(t *testing.T) {
	r := rand.New(rand.NewSource(203))
	some := func() int { return wild[r.Intn(len(wild))] }
	yes := 0
	for range 20000 {
		g := drawnGroup(r)
		// Some parts of it, or none, turned.
		for range r.Intn(3) {
			switch m := &g.Members[r.Intn(6)]; r.Intn(5) {
			case 0:
				g.Epoch = some()
			case 1:
				g.Ops = some()
			case 2:
				m.Who = some()
			case 3:
				m.Count = some()
			case 4:
				m.In = !m.In
			}
		}
		if r.Intn(8) == 0 {
			g.Members = g.Members[:r.Intn(7)]
		}
		epoch, x := []int{g.Epoch, some()}[r.Intn(2)], kinds(1+r.Intn(6), some(), some())[r.Intn(4)]
		if i := x.From - 1; i < len(g.Members) && r.Intn(3) > 0 {
			x.Count = g.Members[i].Count + 1
		}
		want, should, f := behind(g, epoch, x)
		if got, counts, e := Judge(g, epoch, x); !sameGroup(got, want) || counts != should || e != f {
			t.Errorf("Judge %v, %d, %s: %v %v %d, not %v %v %d", g, epoch, short(x), got, counts, e, want, should, f)
		}
		if In(g, some()); mayGroup(g) {
			yes++
			isGroup(t, g)
		} else {
			isNone(t, g)
		}
	}
	if yes < 3000 || yes > 18000 {
		t.Error("may be:", yes)
	}
	isNone(t, api.Group{})
}

func TestWildRecordsEnd(t *testing.T) {
	r := rand.New(rand.NewSource(204))
	some := func() int { return wild[r.Intn(len(wild))] }
	g := groupOf(3, 7, 1, 2, 4)
	for range 20000 {
		x := kinds(1+r.Intn(6), 1, 1+r.Intn(6))[r.Intn(4)]
		x.Count = 10*x.From + 1
		for range r.Intn(4) {
			switch r.Intn(6) {
			case 0:
				x.Kind = some()
			case 1:
				x.From = some()
			case 2:
				x.Count = some()
			case 3:
				x.Seq = some()
			case 4:
				x.Who = some()
			case 5:
				x.Op.At.Who = some()
			}
		}
		epoch := []int{3, 3, 2, some()}[r.Intn(4)]
		want, should, f := behind(g, epoch, x)
		if got, counts, e := Judge(g, epoch, x); !sameGroup(got, want) || counts != should || e != f {
			t.Errorf("Judge %v, %d, %s: %v %v %d, not %v %v %d", g, epoch, short(x), got, counts, e, want, should, f)
		}
	}
}

func TestWhatIsHandedInStands(t *testing.T) {
	// Each list with room behind its end.
	members := append(groupOf(3, 7, 1, 2, 4).Members, api.Member{Who: 7, Count: 70, In: true})
	own := append(ownKeys(), "behind")
	wraps := append(rotate(1, 11).Wraps, api.Wrap{Who: 5, Text: strings.Repeat("v", 48)})
	wasMembers, wasOwn, wasWraps := slices.Clone(members), slices.Clone(own), slices.Clone(wraps)
	g := api.Group{Epoch: 3, Ops: 7, Members: members[:6]}
	for range 2 {
		isGroup(t, g)
		for _, r := range []api.Record{op(2, 21), op(3, 31), add(1, 11, 3), remove(1, 11, 2), rotate(1, 11)} {
			if r.Kind != api.RecOp {
				r.Wraps = wraps[:1]
			}
			want, counts, _ := behind(g, 3, r)
			judges(t, g, 3, r, want, counts)
			judgesNot(t, g, 4, r, api.ErrEpoch)
			r.Count++
			judgesNot(t, g, 3, r, api.ErrArg)
		}
		wrapsSo(t, g, own[:6], head)
		wrapsNot(t, g, own[:3], head)
		wrapsNot(t, g, own[:6], "short")
		putsSo(t, g, bytesOf(g))
		for who := range 8 {
			if In(g, who) != (who == 1 || who == 2 || who == 4) {
				t.Error(who)
			}
		}
		if !slices.Equal(members, wasMembers) || !slices.Equal(own, wasOwn) || !slices.Equal(wraps, wasWraps) {
			t.Error("changed:", members, own, wraps)
		}
	}
}

// spoil writes over members up to the end of their room.
func spoil(l []api.Member) {
	for i := range l[:cap(l)] {
		l[:cap(l)][i] = api.Member{Who: 9, Count: 9}
	}
}

func TestWhatIsHandedOutIsNew(t *testing.T) {
	spoil(New().Members)
	isGroup(t, New())
	if g := New(); g.Members[0] != (api.Member{Who: 1, In: true}) {
		t.Error(g)
	}
	for _, r := range []api.Record{op(2, 21), op(3, 31), add(1, 11, 3), add(1, 11, 2), remove(1, 11, 2), rotate(1, 11), rotate(2, 21)} {
		g := groupOf(3, 7, 1, 2, 4)
		one, counts, _ := Judge(g, 3, r)
		two, _, _ := Judge(g, 3, r)
		spoil(one.Members)
		want, should, _ := behind(groupOf(3, 7, 1, 2, 4), 3, r)
		if !sameGroup(g, groupOf(3, 7, 1, 2, 4)) || !sameGroup(two, want) || counts != should {
			t.Error("changed:", g, two)
		}
		spoil(g.Members)
		if !sameGroup(two, want) {
			t.Error("changed:", two)
		}
	}
	g := groupOf(9, 7, 1, 3, 6)
	s, _ := Put(g)
	one, _ := Take(s)
	two, _ := Take(s)
	spoil(one.Members)
	first, _ := Wraps(g, ownKeys(), head)
	second, _ := Wraps(g, ownKeys(), head)
	was := slices.Clone(second)
	clear(first[:cap(first)])
	if !sameGroup(two, g) || !slices.Equal(second, was) {
		t.Error("changed:", two, second)
	}
	spoil(g.Members)
	if !sameGroup(two, groupOf(9, 7, 1, 3, 6)) || s != bytesOf(two) {
		t.Error("changed:", two)
	}
}

func TestAnswersHangOnTheArgumentsAlone(t *testing.T) {
	g := groupOf(3, 499, 1, 2, 4)
	again := func() {
		isGroup(t, g)
		for _, r := range kinds(1, 11, 3) {
			want, counts, _ := behind(g, 3, r)
			judges(t, g, 3, r, want, counts)
		}
		judgesNot(t, g, 3, op(2, 20), api.ErrArg)
		judgesNot(t, g, 1, op(2, 21), api.ErrEpoch)
		takesNot(t, bytesOf(g)+"\x00")
		isNone(t, api.Group{})
	}
	again()
	var wait sync.WaitGroup
	for range 8 {
		wait.Go(func() {
			for range 10 {
				again()
			}
		})
	}
	wait.Wait()
}
