package view

import (
	"math"
	"math/rand"
	"slices"
	"sort"
	"strconv"
	"strings"
	"testing"

	"samphire/api"
	"samphire/tree"
)

// wild are numbers at all edges, of any kind.
var wild = []int{math.MinInt, -1 << 40, -7, -2, -1, 0, 1, 2, 5, 6, 7, 255, 1<<32 + 1, api.MaxTime, api.MaxTime + 1, 1<<40 + 1, math.MaxInt}

// noStamps are stamps that are neither one of an operation, nor the root, nor the trash.
var noStamps = []api.Stamp{
	{Time: 0, Who: 2}, {Time: 0, Who: 6}, {Time: 0, Who: 7}, {Time: 0, Who: -1}, {Time: 1, Who: 0}, {Time: 1, Who: 7}, {Time: 1, Who: -1},
	{Time: -1, Who: 1}, {Time: -1, Who: 0}, {Time: -1, Who: -1}, {Time: api.MaxTime + 1, Who: 1}, {Time: api.MaxTime, Who: 7}, {Time: api.MaxTime, Who: 0},
	// The lowest bits alone would do.
	{Time: 1 << 40, Who: 1}, {Time: 1 << 40, Who: 0}, {Time: 1<<40 + 1, Who: 1}, {Time: 1, Who: 1<<8 + 1}, {Time: 0, Who: 1<<32 + 1}, {Time: 1 << 32, Who: 1 << 32},
	{Time: math.MinInt, Who: 1}, {Time: math.MaxInt, Who: 1}, {Time: 1, Who: math.MinInt}, {Time: 1, Who: math.MaxInt},
}

// noNames are texts that are no names.
var noNames = []string{"", ".", "..", " a", "a ", "a/b", "/", "a\x00", "a\n", "a\x7f", "a\u0085", "a\xff", strings.Repeat("a", api.MaxName+1), strings.Repeat("é", api.MaxName+1)}

// theRoot and theTrash are parents that are no nodes.
var (
	theRoot  = api.Stamp{Time: 0, Who: 0}
	theTrash = api.Stamp{Time: 0, Who: 1}
)

func stamp(time, who int) api.Stamp { return api.Stamp{Time: time, Who: who} }

// at is a stamp of the client 1.
func at(time int) api.Stamp { return stamp(time, 1) }

func node(id, parent api.Stamp, name, value string) api.Node {
	return api.Node{Id: id, Parent: parent, Name: name, Value: value}
}

func line(deep int, id api.Stamp, name, value string) api.Line {
	return api.Line{Deep: deep, Id: id, Name: name, Value: value}
}

// chain are nodes each of which stands below the one ahead of it, the first one below a parent.
func chain(n int, parent api.Stamp, name string) []api.Node {
	var l []api.Node
	for k := range n {
		l = append(l, node(at(1+k), parent, name, ""))
		parent = at(1 + k)
	}
	return l
}

// flat are nodes that all stand below one parent.
func flat(parent api.Stamp, names ...string) []api.Node {
	var l []api.Node
	for k, s := range names {
		l = append(l, node(at(1+k), parent, s, ""))
	}
	return l
}

// few are the first ones of nodes: to tell of them.
func few(l []api.Node) []api.Node { return l[:min(len(l), 8)] }

// refuses holds that nodes may not be a tree's, whatever is asked of them.
func refuses(t *testing.T, l []api.Node) {
	t.Helper()
	if e := Check(l); e != api.ErrArg {
		t.Errorf("Check of %v: %d", few(l), e)
	}
	if got, e := Lines(l); len(got) != 0 || e != api.ErrArg {
		t.Errorf("Lines of %v: %v %d", few(l), got, e)
	}
	ids := []api.Stamp{theRoot, theTrash, at(1), at(99), stamp(-1, 7)}
	paths := []string{"", "a", "b", "a/b", "/", "none"}
	for _, n := range l {
		if len(ids) < 20 {
			ids, paths = append(ids, n.Id), append(paths, n.Name)
		}
	}
	for _, id := range ids {
		if got, e := Path(l, id); got != "" || e != api.ErrArg {
			t.Errorf("Path of %v in %v: %q %d", id, few(l), got, e)
		}
	}
	for _, path := range paths {
		if got, e := Find(l, path); got != (api.Stamp{}) || e != api.ErrArg {
			t.Errorf("Find of %q in %v: %v %d", path, few(l), got, e)
		}
	}
}

// takes holds that nodes may be a tree's.
func takes(t *testing.T, l []api.Node) {
	t.Helper()
	if e := Check(l); e != api.OK {
		t.Errorf("Check of %v: %d", few(l), e)
	}
	if got, e := Lines(l); len(got) != len(shownOf(l)) || e != api.OK {
		t.Errorf("Lines of %v: %v %d", few(l), got, e)
	}
	if _, e := Path(l, theRoot); e != api.ErrNone {
		t.Errorf("Path in %v: %d", few(l), e)
	}
	if got, e := Find(l, ""); got != theRoot || e != api.OK {
		t.Errorf("Find in %v: %v %d", few(l), got, e)
	}
}

// shows holds which lines nodes are shown as.
func shows(t *testing.T, l []api.Node, want ...api.Line) {
	t.Helper()
	if got, e := Lines(l); !slices.Equal(got, want) || e != api.OK {
		t.Errorf("Lines of %v: %v %d, not %v", few(l), got, e, want)
	}
}

// reads holds which text nodes are shown as.
func reads(t *testing.T, l []api.Node, want string) {
	t.Helper()
	got, e := Lines(l)
	if s := Text(got); s != want || e != api.OK {
		t.Errorf("%v: %q %d, not %q", few(l), s, e, want)
	}
}

// stands holds that a node has a place, by Path and by Find.
func stands(t *testing.T, l []api.Node, id api.Stamp, path string) {
	t.Helper()
	if got, e := Path(l, id); got != path || e != api.OK {
		t.Errorf("Path of %v: %q %d, not %q", id, got, e, path)
	}
	if got, e := Find(l, path); got != id || e != api.OK {
		t.Errorf("Find of %q: %v %d, not %v", path, got, e, id)
	}
}

// noNode holds that a number is that of no node that is shown.
func noNode(t *testing.T, l []api.Node, id api.Stamp) {
	t.Helper()
	if got, e := Path(l, id); got != "" || e != api.ErrNone {
		t.Errorf("Path of %v: %q %d", id, got, e)
	}
}

// noPlace holds that no node stands at a place.
func noPlace(t *testing.T, l []api.Node, path string) {
	t.Helper()
	if got, e := Find(l, path); got != (api.Stamp{}) || e != api.ErrNone {
		t.Errorf("Find of %q: %v %d", path, got, e)
	}
}

// What is shown, told by another way: each node's place is sought from below, and all are put in order by their places.

// topsOf is of each node where its parents lead to; of those that lead nowhere there is none.
func topsOf(l []api.Node) map[api.Stamp]api.Stamp {
	tops := map[api.Stamp]api.Stamp{theRoot: theRoot, theTrash: theTrash}
	// Each round those are known whose parents are: till a round tells of no one.
	for known := 0; known < len(tops); {
		known = len(tops)
		for _, n := range l {
			if top, ok := tops[n.Parent]; ok {
				tops[n.Id] = top
			}
		}
	}
	return tops
}

// ownOf are the own names of siblings: each number is tried, from 2 on.
func ownOf(names []string) []string {
	var own []string
	for _, s := range names {
		try := s
		for k := 2; slices.Contains(own, try); k++ {
			behind := "~" + strconv.Itoa(k)
			r := []rune(s)
			try = string(r[:min(len(r), 32-len(behind))]) + behind
		}
		own = append(own, try)
	}
	return own
}

// ownNames are the own names of all nodes.
func ownNames(l []api.Node) map[api.Stamp]string {
	names := map[api.Stamp][]string{}
	for _, n := range l {
		names[n.Parent] = append(names[n.Parent], n.Name)
	}
	for parent := range names {
		names[parent] = ownOf(names[parent])
	}
	own := map[api.Stamp]string{}
	for _, n := range l {
		own[n.Id] = names[n.Parent][0]
		names[n.Parent] = names[n.Parent][1:]
	}
	return own
}

// placed is a line and its place.
type placed struct {
	line  api.Line
	place []string
}

// shownOf are the nodes that are shown, in order.
func shownOf(l []api.Node) []placed {
	tops, own := topsOf(l), ownNames(l)
	parents := map[api.Stamp]api.Stamp{}
	for _, n := range l {
		parents[n.Id] = n.Parent
	}
	var all []placed
	for _, n := range l {
		if top, ok := tops[n.Id]; !ok || top != theRoot {
			continue
		}
		var place []string
		for up := n.Id; up != theRoot; up = parents[up] {
			place = append(place, own[up])
		}
		slices.Reverse(place)
		all = append(all, placed{line: line(len(place)-1, n.Id, own[n.Id], n.Value), place: place})
	}
	sort.Slice(all, func(i, j int) bool { return slices.Compare(all[i].place, all[j].place) < 0 })
	return all
}

// mayBe tells whether nodes may be a tree's.
func mayBe(l []api.Node) bool {
	rank := 0
	for _, n := range l {
		isOne := n.Id.Time > 0 && n.Id.Time>>40 == 0 && n.Id.Who > 0 && n.Id.Who < 7
		if !isOne || n.Id.Time<<3+n.Id.Who <= rank || slices.Contains(noNames, n.Name) || len(n.Value) >= 65 {
			return false
		}
		rank = n.Id.Time<<3 + n.Id.Who
	}
	// All, and the two tops.
	return len(l) < 513 && len(topsOf(l)) == len(l)+2
}

// isShownSo holds all that can be told of nodes beside the other way.
func isShownSo(t *testing.T, l []api.Node) {
	t.Helper()
	all := shownOf(l)
	var want []api.Line
	shown := map[api.Stamp]int{}
	places := map[string]int{}
	for _, x := range all {
		path := strings.Join(x.place, "/")
		want = append(want, x.line)
		stands(t, l, x.line.Id, path)
		shown[x.line.Id]++
		places[path]++
	}
	shows(t, l, want...)
	// Each is shown once, and has a place of its own.
	if len(shown) != len(all) || len(places) != len(all) {
		t.Fatalf("%v: %d shown, %d places", l, len(shown), len(places))
	}
	for _, n := range l {
		if shown[n.Id] == 0 {
			noNode(t, l, n.Id)
		}
	}
}

// Vw1: the example.

func TestExample(t *testing.T) {
	l := []api.Node{node(at(1), theRoot, "a", ""), node(at(2), theRoot, "a", ""), node(at(3), at(2), "b", "")}
	shows(t, l, line(0, at(1), "a", ""), line(0, at(2), "a~2", ""), line(1, at(3), "b", ""))
	reads(t, l, "a\na~2\n  b\n")
	stands(t, l, at(1), "a")
	stands(t, l, at(2), "a~2")
	stands(t, l, at(3), "a~2/b")
	noPlace(t, l, "a/b")
	noPlace(t, l, "b")
	takes(t, l)
}

// Vw1: Check, and ErrArg of all others.

func TestNoNodes(t *testing.T) {
	for _, l := range [][]api.Node{nil, {}} {
		takes(t, l)
		shows(t, l)
		for _, id := range slices.Concat(noStamps, []api.Stamp{theRoot, theTrash, at(1)}) {
			noNode(t, l, id)
		}
		for _, path := range []string{"a", "/", ".", "..", " ", "~2", "\x00", "\xff"} {
			noPlace(t, l, path)
		}
	}
}

func TestHowMany(t *testing.T) {
	names := func(n int) []string {
		var l []string
		for k := range n {
			l = append(l, "n"+strconv.Itoa(k))
		}
		return l
	}
	for _, parent := range []api.Stamp{theRoot, theTrash} {
		for _, n := range []int{1, 2, 511, 512} {
			takes(t, flat(parent, names(n)...))
			takes(t, chain(n, parent, "a"))
		}
		for _, n := range []int{513, 514, 1024, 1<<16 + 1} {
			refuses(t, flat(parent, names(n)...))
			refuses(t, chain(n, parent, "a"))
		}
	}
	// Those that are not shown count, too.
	l := flat(theRoot, names(512)...)
	for i := range l {
		if i%2 == 0 {
			l[i].Parent = theTrash
		}
	}
	takes(t, l)
	refuses(t, append(l, node(at(513), theTrash, "a", "")))
}

func TestNumbersThatMayBe(t *testing.T) {
	l := []api.Node{
		node(stamp(1, 1), theRoot, "a", ""), node(stamp(1, 6), theRoot, "a", ""), node(stamp(2, 1), stamp(1, 6), "a", ""), node(stamp(2, 2), theRoot, "a", ""),
		node(stamp(api.MaxTime, 1), stamp(1, 1), "a", ""), node(stamp(api.MaxTime, 6), theTrash, "a", ""),
	}
	takes(t, l)
	for i := range l {
		one := l[i]
		one.Parent = theRoot
		takes(t, []api.Node{one})
	}
}

func TestNumbersThatMayNotBe(t *testing.T) {
	for _, s := range slices.Concat(noStamps, []api.Stamp{theRoot, theTrash}) {
		for _, parent := range []api.Stamp{theRoot, theTrash} {
			n := node(s, parent, "a", "")
			refuses(t, []api.Node{n})
			// Ahead of others, and behind them: wherever it stands, they may not be.
			refuses(t, []api.Node{n, node(at(5), theRoot, "b", "")})
			refuses(t, []api.Node{node(at(5), theRoot, "b", ""), n})
			refuses(t, []api.Node{node(at(5), theRoot, "b", ""), n, node(at(6), theRoot, "c", "")})
		}
		// As its own parent.
		refuses(t, []api.Node{node(s, s, "a", "")})
	}
	// Time alone, or Who alone, at all edges.
	for _, k := range wild {
		for _, s := range []api.Stamp{stamp(k, 1), stamp(5, k)} {
			l := []api.Node{node(s, theRoot, "a", "")}
			if mayBe(l) {
				takes(t, l)
			} else {
				refuses(t, l)
			}
		}
	}
}

func TestNumbersThatDoNotRise(t *testing.T) {
	rising := []api.Stamp{stamp(1, 1), stamp(1, 2), stamp(2, 1), stamp(2, 6), stamp(3, 1)}
	of := func(ids ...api.Stamp) []api.Node {
		var l []api.Node
		for k, s := range ids {
			l = append(l, node(s, theRoot, "n"+strconv.Itoa(k), ""))
		}
		return l
	}
	takes(t, of(rising...))
	for i := range rising {
		for j := range rising {
			if i < j {
				takes(t, of(rising[i], rising[j]))
			} else {
				refuses(t, of(rising[i], rising[j]))
			}
			// Two of five change their places.
			ids := slices.Clone(rising)
			ids[i], ids[j] = ids[j], ids[i]
			if i != j {
				refuses(t, of(ids...))
			}
			// One stands in another one's place, too.
			ids = slices.Clone(rising)
			ids[i] = ids[j]
			if i != j {
				refuses(t, of(ids...))
			}
		}
	}
	// The same node twice, and the same number of nodes that differ.
	a := node(at(1), theRoot, "a", "v")
	refuses(t, []api.Node{a, a})
	refuses(t, []api.Node{a, node(at(1), theTrash, "b", "")})
	refuses(t, []api.Node{a, node(at(1), at(1), "b", "")})
	refuses(t, []api.Node{node(at(1), at(1), "b", ""), a})
	refuses(t, []api.Node{a, node(at(2), at(1), "b", ""), node(at(2), at(1), "b", "")})
	refuses(t, []api.Node{a, node(at(2), at(1), "b", ""), node(at(2), at(2), "b", "")})
}

func TestNames(t *testing.T) {
	for _, s := range []string{"a", "...", "a b", "é", "~2", "=", "a=b", "a~", "a\u00a0", "\ufffd", strings.Repeat("a", 32), strings.Repeat("é", 32), strings.Repeat("\U0001f333", 32)} {
		for _, parent := range []api.Stamp{theRoot, theTrash} {
			takes(t, flat(parent, s))
			takes(t, flat(parent, "a", s, "b"))
		}
		stands(t, flat(theRoot, s), at(1), s)
	}
	for _, s := range noNames {
		for _, parent := range []api.Stamp{theRoot, theTrash} {
			refuses(t, flat(parent, s))
			refuses(t, flat(parent, s, "b"))
			refuses(t, flat(parent, "a", s))
			refuses(t, flat(parent, "a", s, "b"))
		}
	}
}

func TestValues(t *testing.T) {
	for _, parent := range []api.Stamp{theRoot, theTrash} {
		for _, n := range []int{0, 1, 63, 64} {
			takes(t, []api.Node{node(at(1), parent, "a", strings.Repeat("v", n))})
			takes(t, []api.Node{node(at(1), parent, "a", strings.Repeat("\xff", n)), node(at(2), at(1), "b", strings.Repeat("\n", n))})
		}
		for _, n := range []int{65, 66, 128, 1<<8 + 1, 1 << 16} {
			long := strings.Repeat("v", n)
			refuses(t, []api.Node{node(at(1), parent, "a", long)})
			refuses(t, []api.Node{node(at(1), parent, "a", long), node(at(2), parent, "b", "")})
			refuses(t, []api.Node{node(at(1), parent, "a", ""), node(at(2), at(1), "b", long)})
		}
		// Bytes count, not runes.
		takes(t, []api.Node{node(at(1), parent, "a", strings.Repeat("é", 32))})
		refuses(t, []api.Node{node(at(1), parent, "a", strings.Repeat("é", 32)+"a")})
		refuses(t, []api.Node{node(at(1), parent, "a", strings.Repeat("é", 33))})
	}
	// What is no name may be a value, but for its length.
	for _, s := range noNames {
		if len(s) <= 64 {
			shows(t, []api.Node{node(at(1), theRoot, "a", s)}, line(0, at(1), "a", s))
		}
	}
}

func TestAParentThatIsNotThere(t *testing.T) {
	beside := []api.Node{node(at(1), theRoot, "a", ""), node(at(2), at(1), "b", ""), node(at(3), theTrash, "c", "")}
	takes(t, beside)
	for _, parent := range slices.Concat(noStamps, []api.Stamp{at(9), stamp(1, 2), stamp(2, 6), stamp(api.MaxTime, 6), at(4)}) {
		n := node(at(5), parent, "d", "")
		refuses(t, []api.Node{n})
		refuses(t, append(slices.Clone(beside), n))
		// What stands below it leads nowhere, either.
		refuses(t, append(slices.Clone(beside), n, node(at(6), at(5), "e", "")))
		refuses(t, append(slices.Clone(beside), node(at(4), at(5), "d", ""), node(at(5), parent, "e", "")))
		l := slices.Clone(beside)
		l[1].Parent = parent
		refuses(t, l)
	}
}

func TestAParentBehindItsChild(t *testing.T) {
	l := []api.Node{node(at(1), at(3), "a", ""), node(at(2), at(1), "b", ""), node(at(3), at(4), "c", ""), node(at(4), theRoot, "d", "")}
	takes(t, l)
	shows(t, l, line(0, at(4), "d", ""), line(1, at(3), "c", ""), line(2, at(1), "a", ""), line(3, at(2), "b", ""))
	stands(t, l, at(2), "d/c/a/b")
	l[3].Parent = theTrash
	takes(t, l)
	shows(t, l)
	// By Who alone.
	shows(t, []api.Node{node(stamp(1, 1), stamp(1, 2), "a", ""), node(stamp(1, 2), theRoot, "b", "")}, line(0, stamp(1, 2), "b", ""), line(1, stamp(1, 1), "a", ""))
	// All of them, the last one at the top.
	l = nil
	for k := range 512 {
		l = append(l, node(at(1+k), at(2+k), "a", ""))
	}
	refuses(t, l)
	l[511].Parent = theRoot
	takes(t, l)
	stands(t, l, at(1), strings.Repeat("a/", 511)+"a")
}

func TestRings(t *testing.T) {
	besides := [][]api.Node{
		nil,
		{node(at(1), theRoot, "a", "")},
		{node(at(1), theRoot, "a", ""), node(at(2), at(1), "b", ""), node(at(3), theRoot, "c", "")},
		{node(at(1), theTrash, "a", ""), node(at(2), at(1), "b", "")},
	}
	for _, beside := range besides {
		takes(t, beside)
		for _, n := range []int{1, 2, 3, 4, 100, 500} {
			ring := slices.Clone(beside)
			for k := range n {
				ring = append(ring, node(at(10+k), at(10+(k+1)%n), "r", ""))
			}
			refuses(t, ring)
			// The other way round.
			for k := range n {
				ring[len(beside)+k].Parent = at(10 + (k+n-1)%n)
			}
			refuses(t, ring)
			// What stands below it.
			refuses(t, append(slices.Clone(ring), node(at(1000), at(10), "s", "")))
			refuses(t, append(slices.Clone(ring), node(at(1000), at(10+n-1), "s", ""), node(at(1001), at(1000), "s", "")))
			// Once it is open, all lead up.
			for _, top := range []api.Stamp{theRoot, theTrash} {
				ring[len(beside)].Parent = top
				takes(t, ring)
			}
		}
	}
	// Two rings, and 512 nodes of which one stands below itself.
	refuses(t, []api.Node{node(at(1), at(2), "a", ""), node(at(2), at(1), "b", ""), node(at(3), at(4), "c", ""), node(at(4), at(3), "d", "")})
	l := chain(512, theRoot, "a")
	l[511].Parent = at(512)
	refuses(t, l)
	l[511].Parent = at(511)
	takes(t, l)
	l[0].Parent = at(512)
	refuses(t, l)
}

// drawNodes are drawn nodes, that seldom may not be a tree's.
func drawNodes(r *rand.Rand, most int) []api.Node {
	names := []string{"a", "a", "b", "A", "a~2", "a~3", "é", "b~2", "-", strings.Repeat("x", 32), strings.Repeat("x", 30) + "~2"}
	var l []api.Node
	ids := []api.Stamp{theRoot, theRoot, theTrash}
	n := r.Intn(most + 1)
	for k := range n {
		ids = append(ids, stamp(1+k/2, 1+k%2))
	}
	for k := range n {
		// A parent ahead of it: so that they lead up; seldom any one.
		parent := ids[r.Intn(3+k)]
		if r.Intn(6*most) == 0 {
			parent = ids[r.Intn(len(ids))]
		}
		l = append(l, node(ids[3+k], parent, names[r.Intn(len(names))], strings.Repeat("v", r.Intn(3))))
	}
	return l
}

// renumbered are nodes by other numbers, so that parents stand behind their children, too.
func renumbered(r *rand.Rand, l []api.Node) []api.Node {
	to := map[api.Stamp]api.Stamp{theRoot: theRoot, theTrash: theTrash}
	for i, k := range r.Perm(len(l)) {
		to[l[i].Id] = stamp(1+k/3, 1+k%3)
	}
	l = slices.Clone(l)
	for i, n := range l {
		l[i].Id, l[i].Parent = to[n.Id], to[n.Parent]
	}
	slices.SortFunc(l, func(a, b api.Node) int { return a.Id.Time<<3 + a.Id.Who - b.Id.Time<<3 - b.Id.Who })
	return l
}

func TestCheckOfDrawnNodes(t *testing.T) {
	r := rand.New(rand.NewSource(12))
	yes, no := 0, 0
	for range 20000 {
		l := renumbered(r, drawNodes(r, 8))
		if len(l) > 0 {
			n := &l[r.Intn(len(l))]
			switch r.Intn(8) {
			case 0:
				n.Parent = l[r.Intn(len(l))].Id
			case 1:
				n.Id = l[r.Intn(len(l))].Id
			case 2:
				n.Name = noNames[r.Intn(len(noNames))]
			case 3:
				n.Value = strings.Repeat("v", 60+r.Intn(10))
			case 4:
				n.Id = stamp(wild[r.Intn(len(wild))], wild[r.Intn(len(wild))])
			case 5:
				n.Parent = stamp(wild[r.Intn(len(wild))], wild[r.Intn(len(wild))])
			}
		}
		if mayBe(l) {
			takes(t, l)
			yes++
		} else {
			refuses(t, l)
			no++
		}
	}
	if yes < 5000 || no < 5000 {
		t.Error("too few of a kind:", yes, no)
	}
}

// Vw1: Lines.

func TestTheSameNames(t *testing.T) {
	reads(t, flat(theRoot, "a", "a", "a"), "a\na~2\na~3\n")
	shows(t, flat(theRoot, "b", "a", "b", "a"), line(0, at(2), "a", ""), line(0, at(4), "a~2", ""), line(0, at(1), "b", ""), line(0, at(3), "b~2", ""))
	// By their numbers, the first one is as it was: a name with a number, too.
	shows(t, flat(theRoot, "a", "a~2", "a"), line(0, at(1), "a", ""), line(0, at(2), "a~2", ""), line(0, at(3), "a~3", ""))
	shows(t, flat(theRoot, "a", "a", "a~2"), line(0, at(1), "a", ""), line(0, at(2), "a~2", ""), line(0, at(3), "a~2~2", ""))
	shows(t, flat(theRoot, "a~2", "a", "a"), line(0, at(2), "a", ""), line(0, at(1), "a~2", ""), line(0, at(3), "a~3", ""))
	// Below different parents they are the same.
	l := []api.Node{node(at(1), theRoot, "a", ""), node(at(2), at(1), "a", ""), node(at(3), at(2), "a", ""), node(at(4), at(1), "a", ""), node(at(5), theRoot, "b", ""), node(at(6), at(5), "a", "")}
	shows(t, l, line(0, at(1), "a", ""), line(1, at(2), "a", ""), line(2, at(3), "a", ""), line(1, at(4), "a~2", ""), line(0, at(5), "b", ""), line(1, at(6), "a", ""))
	isShownSo(t, l)
}

func TestTheSameNamesByWho(t *testing.T) {
	l := []api.Node{node(stamp(5, 2), theRoot, "a", "2"), node(stamp(5, 3), theRoot, "a", "3"), node(stamp(6, 1), theRoot, "a", "1")}
	shows(t, l, line(0, stamp(5, 2), "a", "2"), line(0, stamp(5, 3), "a~2", "3"), line(0, stamp(6, 1), "a~3", "1"))
}

func TestLettersCase(t *testing.T) {
	// They are not the same, and great letters come first by their bytes.
	shows(t, flat(theRoot, "a", "A", "b", "B"), line(0, at(2), "A", ""), line(0, at(4), "B", ""), line(0, at(1), "a", ""), line(0, at(3), "b", ""))
	shows(t, flat(theRoot, "a", "A", "a", "A"), line(0, at(2), "A", ""), line(0, at(4), "A~2", ""), line(0, at(1), "a", ""), line(0, at(3), "a~2", ""))
}

func TestOwnNamesChangeTheOrder(t *testing.T) {
	// By the names a, a, ab, aa: but the second a is shown as a~2, which comes behind ab.
	shows(t, flat(theRoot, "a", "a", "ab", "aa"), line(0, at(1), "a", ""), line(0, at(4), "aa", ""), line(0, at(3), "ab", ""), line(0, at(2), "a~2", ""))
	// A number of two digits comes ahead of that of one.
	names := make([]string, 11)
	for i := range names {
		names[i] = "a"
	}
	reads(t, flat(theRoot, names...), "a\na~10\na~11\na~2\na~3\na~4\na~5\na~6\na~7\na~8\na~9\n")
	// What is below comes behind its own, ahead of what is behind that.
	l := append(flat(theRoot, "a", "a", "ab"), node(at(4), at(1), "z", ""), node(at(5), at(2), "y", ""), node(at(6), at(3), "x", ""))
	reads(t, l, "a\n  z\nab\n  x\na~2\n  y\n")
	isShownSo(t, l)
}

func TestOrderByteByByte(t *testing.T) {
	reads(t, flat(theRoot, "b", "a", "c"), "a\nb\nc\n")
	reads(t, flat(theRoot, "ab", "b", "a", "aa"), "a\naa\nab\nb\n")
	reads(t, flat(theRoot, "10", "9", "1", "01"), "01\n1\n10\n9\n")
	// A blank, '-' and '.' come ahead of '/': yet what is below a comes ahead of them.
	l := append(flat(theRoot, "a.b", "a b", "a", "a-b", "a0"), node(at(6), at(3), "z", ""))
	reads(t, l, "a\n  z\na b\na-b\na.b\na0\n")
	isShownSo(t, l)
}

func TestNamesThatAreNotPlainLetters(t *testing.T) {
	// By bytes: 7a, c3a9, e282ac, ef bf bd, f09f8cb3.
	shows(t, flat(theRoot, "\U0001f333", "€", "é", "\ufffd", "z"),
		line(0, at(5), "z", ""), line(0, at(3), "é", ""), line(0, at(2), "€", ""), line(0, at(4), "\ufffd", ""), line(0, at(1), "\U0001f333", ""))
	reads(t, flat(theRoot, "é", "é", "e\u0301"), "e\u0301\né\né~2\n")
	// Runes are cut, not bytes, that there be room for a number.
	long := strings.Repeat("é", 32)
	l := flat(theRoot, long, long, strings.Repeat("é", 31)+"x")
	shows(t, l, line(0, at(2), strings.Repeat("é", 30)+"~2", ""), line(0, at(3), strings.Repeat("é", 31)+"x", ""), line(0, at(1), long, ""))
	// What a name looks like as a text is no matter.
	reads(t, flat(theRoot, "a=b", "=", "~2", "..."), "...\n=\na=b\n~2\n")
}

func TestADeepChain(t *testing.T) {
	l := chain(512, theRoot, "a")
	got, e := Lines(l)
	if len(got) != 512 || e != api.OK {
		t.Fatal(len(got), e)
	}
	for k, x := range got {
		if x != line(k, at(1+k), "a", "") {
			t.Fatal(k, x)
		}
	}
	if got[511].Deep != 511 {
		t.Error(got[511])
	}
	for k := range 512 {
		stands(t, l, at(1+k), strings.Repeat("a/", k)+"a")
	}
	noPlace(t, l, strings.Repeat("a/", 512)+"a")
	noPlace(t, l, strings.Repeat("a/", 513)+"a")
	noPlace(t, l, strings.Repeat("a/", 512))
	// Long names: a path of as many bytes as there may be.
	tree32 := strings.Repeat("\U0001f333", 32)
	l = chain(512, theRoot, tree32)
	stands(t, l, at(512), strings.Repeat(tree32+"/", 511)+tree32)
	// Below the trash nothing of it is shown.
	l = chain(512, theTrash, "a")
	shows(t, l)
	noNode(t, l, at(1))
	noNode(t, l, at(512))
}

func TestABroadTree(t *testing.T) {
	names := make([]string, 512)
	for i := range names {
		names[i] = strings.Repeat("a", 32)
	}
	l := flat(theRoot, names...)
	isShownSo(t, l)
	stands(t, l, at(512), strings.Repeat("a", 28)+"~512")
}

func TestBelowTheTrash(t *testing.T) {
	l := []api.Node{
		node(at(1), theTrash, "a", "v"), node(at(2), theRoot, "a", ""), node(at(3), at(1), "b", ""), node(at(4), at(2), "b", ""), node(at(5), at(3), "c", ""),
		node(at(6), theTrash, "a", ""), node(at(7), at(2), "b", ""),
	}
	takes(t, l)
	// Those in the trash take no name from those that are shown.
	shows(t, l, line(0, at(2), "a", ""), line(1, at(4), "b", ""), line(1, at(7), "b~2", ""))
	for _, id := range []api.Stamp{at(1), at(3), at(5), at(6)} {
		noNode(t, l, id)
	}
	stands(t, l, at(2), "a")
	stands(t, l, at(4), "a/b")
	stands(t, l, at(7), "a/b~2")
	for _, path := range []string{"a~2", "a/b/c", "b", "c", "b/c", "a~2/b"} {
		noPlace(t, l, path)
	}
	// All in the trash.
	shows(t, flat(theTrash, "a", "b", "a"))
	noPlace(t, flat(theTrash, "a", "b", "a"), "a")
}

func TestBelowANodeThatIsInTheTrash(t *testing.T) {
	l := []api.Node{node(at(1), at(4), "x", ""), node(at(2), theRoot, "a", ""), node(at(3), at(2), "x", ""), node(at(4), theTrash, "a", "")}
	shows(t, l, line(0, at(2), "a", ""), line(1, at(3), "x", ""))
	noNode(t, l, at(1))
	l[3].Parent = at(2)
	shows(t, l, line(0, at(2), "a", ""), line(1, at(4), "a", ""), line(2, at(1), "x", ""), line(1, at(3), "x", ""))
}

func TestValuesOfLines(t *testing.T) {
	long := strings.Repeat("\xff", 64)
	l := []api.Node{node(at(1), theRoot, "a", ""), node(at(2), theRoot, "a", "1"), node(at(3), at(2), "b", long), node(at(4), theRoot, "0", "\n")}
	shows(t, l, line(0, at(4), "0", "\n"), line(0, at(1), "a", ""), line(0, at(2), "a~2", "1"), line(1, at(3), "b", long))
	reads(t, l, "0=\n\na\na~2=1\n  b="+long+"\n")
}

// Vw1: Path and Find.

// some are a few nodes: a (with b, b and B below it), a with c, and d in the trash with e.
func some() []api.Node {
	return []api.Node{
		node(at(1), theRoot, "a", "1"), node(at(2), theRoot, "a", "2"), node(at(3), at(1), "b", "3"), node(at(4), at(1), "b", ""), node(at(5), at(2), "c", ""),
		node(at(6), theTrash, "d", ""), node(at(7), at(6), "e", ""), node(at(8), at(1), "B", ""), node(at(9), at(4), "é", "9"),
	}
}

func TestPathAndFind(t *testing.T) {
	l := some()
	stands(t, l, at(1), "a")
	stands(t, l, at(2), "a~2")
	stands(t, l, at(3), "a/b")
	stands(t, l, at(4), "a/b~2")
	stands(t, l, at(5), "a~2/c")
	stands(t, l, at(8), "a/B")
	stands(t, l, at(9), "a/b~2/é")
	isShownSo(t, l)
}

func TestPathOfNoNode(t *testing.T) {
	l := some()
	for _, id := range slices.Concat(noStamps, []api.Stamp{theRoot, theTrash, at(6), at(7), at(10), stamp(1, 2), stamp(3, 6), at(api.MaxTime)}) {
		noNode(t, l, id)
	}
}

func TestFindOfTheRoot(t *testing.T) {
	for _, l := range [][]api.Node{nil, some(), flat(theTrash, "a"), chain(512, theRoot, "a")} {
		if id, e := Find(l, ""); id != theRoot || e != api.OK {
			t.Error(id, e)
		}
	}
}

func TestFindOfNoPlace(t *testing.T) {
	l := some()
	for _, path := range []string{
		// Of a parent that is not there, and of a child of a node that has none, or not such a one.
		"x", "x/b", "a/x", "a/x/é", "a/b/é", "a~2/b", "a/c", "a/b~2/é/x", "a~3", "a/b~3", "b", "b~2", "é", "c",
		// With '/' where it does not belong.
		"/", "//", "/a", "a/", "//a", "a//", "/a/b", "a/b/", "a//b", "a///b", "a/b~2//é", "/a/b~2/é", "a/b~2/é/", "/a/",
		// Of what is in the trash.
		"d", "d/e", "e", "d/", "/d",
		// The Name in place of the own name.
		"a/b/é", "a/c", "a~1", "a~2~2", "a~02", "a~",
		// Alike, but not the same.
		"A", "a/B~2", "a/b~2/e\u0301", "a/b~2/\xc3", "a/b~2/e", "a ", " a", "a/ b", "a\\b", "a=1", "a\n", "a\x00", ".", "..", "./a", "a/.", "a/..", "a/../a", "a/b/..",
		"a/b~2\x00é", "aa", "ab", "a/bb", "a/b~22",
	} {
		noPlace(t, l, path)
	}
}

func TestFindOfLongPaths(t *testing.T) {
	l := some()
	for _, n := range []int{510, 511, 512, 513, 514, 1 << 10, 1 << 20} {
		noPlace(t, l, strings.Repeat("/", n))
		noPlace(t, l, "a"+strings.Repeat("/", n))
		noPlace(t, l, strings.Repeat("/", n)+"a")
		noPlace(t, l, strings.Repeat("a/", n)+"a")
		noPlace(t, l, strings.Repeat("a", n))
	}
}

func TestTheNameInPlaceOfTheOwn(t *testing.T) {
	// At a leads to the first one alone.
	l := []api.Node{node(at(1), theRoot, "a", ""), node(at(2), theRoot, "a", ""), node(at(3), at(2), "x", ""), node(at(4), theRoot, "a~2", ""), node(at(5), at(4), "y", "")}
	stands(t, l, at(1), "a")
	stands(t, l, at(2), "a~2")
	stands(t, l, at(4), "a~2~2")
	stands(t, l, at(3), "a~2/x")
	stands(t, l, at(5), "a~2~2/y")
	noPlace(t, l, "a/x")
	noPlace(t, l, "a~2/y")
}

// Vw2: Text.

func TestTextOfNoLines(t *testing.T) {
	for _, l := range [][]api.Line{nil, {}} {
		if s := Text(l); s != "" {
			t.Errorf("%q", s)
		}
	}
}

func TestTextOfDepths(t *testing.T) {
	for _, c := range []struct{ deep, blanks int }{
		{0, 0}, {1, 2}, {2, 4}, {3, 6}, {255, 510}, {256, 512}, {511, 1022}, {512, 1024},
		{513, 0}, {514, 0}, {1024, 0}, {-1, 0}, {-2, 0}, {-512, 0}, {1 << 16, 0}, {1 << 32, 0}, {1<<32 + 1, 0}, {1<<63 - 1, 0}, {-1 << 63, 0}, {1 << 62, 0}, {-1<<63 + 1, 0},
	} {
		lead := strings.Repeat(" ", c.blanks)
		for _, v := range []struct{ value, behind string }{{"", ""}, {"v", "=v"}} {
			want := lead + "a" + v.behind + "\n"
			if s := Text([]api.Line{line(c.deep, at(1), "a", v.value)}); s != want {
				t.Errorf("Deep %d: %q", c.deep, s)
			}
			// Between others, that are as they are alone.
			l := []api.Line{line(1, at(2), "x", ""), line(c.deep, at(1), "a", v.value), line(0, at(3), "y", "w")}
			if s := Text(l); s != "  x\n"+want+"y=w\n" {
				t.Errorf("Deep %d: %q", c.deep, s)
			}
		}
	}
	for _, deep := range wild {
		want := "a\n"
		if deep > 0 && deep <= 512 {
			want = strings.Repeat(" ", 2*deep) + want
		}
		if s := Text([]api.Line{line(deep, at(1), "a", "")}); s != want {
			t.Errorf("Deep %d: %q", deep, s)
		}
	}
}

func TestTextOfAnyLines(t *testing.T) {
	// Names and values come in as they are, whether they may be or not, and numbers count for nothing.
	for _, c := range []struct {
		x    api.Line
		want string
	}{
		{api.Line{}, "\n"}, {line(0, at(1), "", "v"), "=v\n"}, {line(1, at(1), "", ""), "  \n"}, {line(0, at(1), "a", "="), "a==\n"}, {line(0, at(1), "a=b", ""), "a=b\n"},
		{line(0, stamp(-1, 99), "\xff/", "\n\x00"), "\xff/=\n\x00\n"}, {line(0, theTrash, " a ", " "), " a = \n"}, {line(2, at(1), "é", "ü"), "    é=ü\n"},
		{line(1, at(1), strings.Repeat("n", 1000), strings.Repeat("v", 1000)), "  " + strings.Repeat("n", 1000) + "=" + strings.Repeat("v", 1000) + "\n"},
	} {
		if s := Text([]api.Line{c.x}); s != c.want {
			t.Errorf("%v: %q, not %q", c.x, s, c.want)
		}
		if s := Text([]api.Line{c.x, c.x}); s != c.want+c.want {
			t.Errorf("%v: %q", c.x, s)
		}
	}
}

func TestTextKeepsTheOrderOfLines(t *testing.T) {
	l := []api.Line{line(3, at(3), "c", ""), line(0, at(1), "b", "2"), line(0, at(1), "b", "2"), line(1, at(2), "a", "")}
	if s := Text(l); s != "      c\nb=2\nb=2\n  a\n" {
		t.Errorf("%q", s)
	}
	many := slices.Repeat([]api.Line{line(1, at(1), "a", "v")}, 100000)
	if s := Text(many); s != strings.Repeat("  a=v\n", 100000) {
		t.Error(len(s))
	}
}

// Vw3.

func TestDrawnNodes(t *testing.T) {
	r := rand.New(rand.NewSource(3))
	lines, hidden := 0, 0
	for k := range 1500 {
		l := drawNodes(r, 4+k%30)
		if k%2 == 0 {
			l = renumbered(r, l)
		}
		if !mayBe(l) {
			refuses(t, l)
			continue
		}
		isShownSo(t, l)
		lines += len(shownOf(l))
		hidden += len(l) - len(shownOf(l))
	}
	if lines < 5000 || hidden < 1000 {
		t.Error("too few:", lines, hidden)
	}
}

func TestDrawnNodesOfAFullTree(t *testing.T) {
	r := rand.New(rand.NewSource(4))
	full := 0
	for full < 4 {
		var l []api.Node
		for len(l) < 512 {
			l = drawNodes(r, 600)
			l = l[:min(len(l), 512)]
		}
		if mayBe(l) {
			isShownSo(t, l)
			full++
		} else {
			refuses(t, l)
		}
	}
}

func TestEachPathLeadsBack(t *testing.T) {
	r := rand.New(rand.NewSource(5))
	for range 300 {
		l := drawNodes(r, 40)
		got, e := Lines(l)
		if e != api.OK {
			continue
		}
		places := map[string]int{}
		for _, x := range got {
			path, e := Path(l, x.Id)
			if e != api.OK || path == "" || strings.Count(path, "/") != x.Deep || !strings.HasSuffix("/"+path, "/"+x.Name) {
				t.Fatalf("%v: %q %d", x, path, e)
			}
			if id, e := Find(l, path); id != x.Id || e != api.OK {
				t.Fatalf("%q: %v %d, not %v", path, id, e, x.Id)
			}
			if places[path]++; places[path] > 1 {
				t.Fatalf("%q is the place of two", path)
			}
		}
	}
}

func TestNodesOfATree(t *testing.T) {
	r := rand.New(rand.NewSource(6))
	for range 200 {
		x := tree.New()
		ids := []api.Stamp{theRoot}
		for k := 1; k < 40; k++ {
			id, parent := at(k), ids[r.Intn(len(ids))]
			o := api.Op{Kind: api.OpCreate, At: id, Node: id, Parent: parent, Name: string(rune('a' + r.Intn(3)))}
			if k > 1 && r.Intn(2) == 0 {
				o = api.Op{Kind: api.OpMove, At: id, Node: ids[len(ids)-1], Parent: parent}
				if r.Intn(4) == 0 {
					o = api.Op{Kind: api.OpTrash, At: id, Node: ids[len(ids)-1]}
				}
			} else {
				ids = append(ids, id)
			}
			if e := x.Apply(o); e != api.OK {
				t.Fatal(o, e)
			}
			// What a tree has may be a tree's, at each step.
			takes(t, x.Nodes())
		}
		isShownSo(t, x.Nodes())
	}
}

// R1, R3 and R4.

func TestListsStandAsTheyWere(t *testing.T) {
	for _, l := range [][]api.Node{some(), flat(theRoot, "b", "a", "b"), {node(at(2), theRoot, "b", ""), node(at(1), theRoot, "a", "")}, {node(at(1), at(1), "a", "")}} {
		was := slices.Clone(l)
		for range 2 {
			Check(l)
			Lines(l)
			Path(l, at(4))
			Find(l, "a/b~2")
			Find(l, "")
			if !slices.Equal(l, was) {
				t.Fatalf("%v, not %v", l, was)
			}
		}
	}
	lines := []api.Line{line(2, at(2), "b", "v"), line(0, at(1), "a", "")}
	was := slices.Clone(lines)
	Text(lines)
	if !slices.Equal(lines, was) {
		t.Errorf("%v, not %v", lines, was)
	}
}

func TestTheRoomBehindAListsEnd(t *testing.T) {
	// What lies there would be shown, or refused, if it were read: and stays.
	behind := []api.Node{node(at(10), theRoot, "a", ""), node(at(10), at(10), "..", strings.Repeat("v", 65))}
	room := slices.Concat(some(), behind)
	l := room[:len(some())]
	takes(t, l)
	isShownSo(t, l)
	if !slices.Equal(room[len(l):], behind) || !slices.Equal(l, some()) {
		t.Error(room)
	}
	// And what lies ahead of its beginning.
	part := slices.Concat(behind, some())[2:]
	isShownSo(t, part)
	lines := []api.Line{line(0, at(1), "a", ""), line(1, at(2), "b", "v")}
	if s := Text(lines[:1]); s != "a\n" {
		t.Errorf("%q", s)
	}
	if s := Text(lines[1:]); s != "  b=v\n" {
		t.Errorf("%q", s)
	}
	if s := Text(lines[:0]); s != "" {
		t.Errorf("%q", s)
	}
	if lines[0] != line(0, at(1), "a", "") || lines[1] != line(1, at(2), "b", "v") {
		t.Error(lines)
	}
}

func TestWhatIsHandedOutIsNewMemory(t *testing.T) {
	l := some()
	want, _ := Lines(l)
	kept := slices.Clone(want)
	got, _ := Lines(l)
	for i := range got {
		got[i] = line(-1, theTrash, "z", "z")
	}
	got = append(got[:0], got[1:]...)
	if !slices.Equal(want, kept) {
		t.Error(want)
	}
	shows(t, l, kept...)
	isShownSo(t, l)
	// In the room behind what is handed out nothing is kept, either.
	more, _ := Lines(l)
	more = append(more, line(7, at(7), "seven", ""))
	shows(t, l, kept...)
	if len(more) != len(kept)+1 {
		t.Error(more)
	}
}

func TestNodesAreNotKept(t *testing.T) {
	l := some()
	got, _ := Lines(l)
	kept := slices.Clone(got)
	for i := range l {
		l[i] = node(at(1+i), theRoot, "z", "z")
	}
	if !slices.Equal(got, kept) {
		t.Error(got)
	}
	// What is asked now is told of what is there now.
	stands(t, l, at(1), "z")
	stands(t, l, at(9), "z~9")
	noPlace(t, l, "a")
	shows(t, some(), kept...)
}

func TestTheSameOnceMore(t *testing.T) {
	// A map's order is not to be seen.
	r := rand.New(rand.NewSource(7))
	for range 20 {
		l := drawNodes(r, 60)
		first, e := Lines(l)
		for range 20 {
			if got, again := Lines(l); !slices.Equal(got, first) || again != e {
				t.Fatalf("%v, not %v", got, first)
			}
			if Text(first) != Text(slices.Clone(first)) {
				t.Fatal("Text")
			}
		}
	}
}

func TestAnyNodes(t *testing.T) {
	// None of them panics, and all end, whatever comes in.
	r := rand.New(rand.NewSource(8))
	names := append(slices.Clone(noNames), "a", "b", "a", "a~2")
	drawn := func() api.Stamp { return stamp(wild[r.Intn(len(wild))], wild[r.Intn(len(wild))]) }
	for range 20000 {
		var l []api.Node
		for range r.Intn(6) {
			l = append(l, node(drawn(), drawn(), names[r.Intn(len(names))], strings.Repeat("v", 62+r.Intn(4))))
		}
		if mayBe(l) {
			takes(t, l)
		} else {
			refuses(t, l)
		}
		Path(l, drawn())
		Find(l, names[r.Intn(len(names))])
		Text([]api.Line{line(wild[r.Intn(len(wild))], drawn(), names[r.Intn(len(names))], names[r.Intn(len(names))])})
	}
}
