package tree

import (
	"math"
	"math/rand"
	"slices"
	"sort"
	"strings"
	"testing"

	"samphire/api"
)

// wild are numbers at all edges, of any kind.
var wild = []int{math.MinInt, -1 << 40, -7, -2, -1, 0, 1, 2, 5, 6, 7, 255, 1<<32 + 1, api.MaxTime, api.MaxTime + 1, 1<<40 + 1, math.MaxInt}

// tops are the parents that are no nodes: the root, and the trash.
var tops = []api.Stamp{{}, {Time: 0, Who: 1}}

// noStamps are stamps that are neither one of an operation, nor the root, nor the trash.
var noStamps = []api.Stamp{
	{Time: 0, Who: 2}, {Time: 0, Who: 6}, {Time: 0, Who: 7}, {Time: 0, Who: -1}, {Time: 1, Who: 0}, {Time: 1, Who: 7}, {Time: 1, Who: -1},
	{Time: -1, Who: 1}, {Time: -1, Who: 0}, {Time: -1, Who: -1}, {Time: api.MaxTime + 1, Who: 1}, {Time: api.MaxTime, Who: 7}, {Time: api.MaxTime, Who: 0},
	// The lowest bits alone would do.
	{Time: 1 << 40, Who: 1}, {Time: 1 << 40, Who: 0}, {Time: 1<<40 + 1, Who: 1}, {Time: 1, Who: 1<<8 + 1}, {Time: 0, Who: 1<<32 + 1}, {Time: 1 << 32, Who: 1 << 32},
	{Time: math.MinInt, Who: 1}, {Time: math.MaxInt, Who: 1}, {Time: 1, Who: math.MinInt}, {Time: 1, Who: math.MaxInt},
}

// noNames are texts that are no names.
var noNames = []string{"", ".", "..", " a", "a ", "a/b", "a\x00", "a\n", "a\x7f", "a\xff", strings.Repeat("a", api.MaxName+1)}

// theTrash is a parent, told by another way.
var theTrash = api.Stamp{Time: 0, Who: 1}

func stamp(time, who int) api.Stamp { return api.Stamp{Time: time, Who: who} }

// at is a stamp of the client 1.
func at(time int) api.Stamp { return stamp(time, 1) }

func createOp(id, parent api.Stamp, name string) api.Op {
	return api.Op{Kind: api.OpCreate, At: id, Node: id, Parent: parent, Name: name}
}

func moveOp(when, id, parent api.Stamp) api.Op {
	return api.Op{Kind: api.OpMove, At: when, Node: id, Parent: parent}
}

func renameOp(when, id api.Stamp, name string) api.Op {
	return api.Op{Kind: api.OpRename, At: when, Node: id, Name: name}
}

func setOp(when, id api.Stamp, value string) api.Op {
	return api.Op{Kind: api.OpSet, At: when, Node: id, Value: value}
}

func trashOp(when, id api.Stamp) api.Op {
	return api.Op{Kind: api.OpTrash, At: when, Node: id}
}

func node(id, parent api.Stamp, name, value string) api.Node {
	return api.Node{Id: id, Parent: parent, Name: name, Value: value}
}

// look is all that can be told of a tree.
type look struct {
	nodes, fixed []api.Node
	ops          []api.Op
	base         api.Stamp
}

func lookAt(x *Tree) look {
	return look{nodes: x.Nodes(), fixed: x.Fixed(), ops: x.Ops(), base: x.Base()}
}

func sameLook(t *testing.T, got, want look) {
	t.Helper()
	if !slices.Equal(got.nodes, want.nodes) {
		t.Errorf("nodes: %v, not %v", got.nodes, want.nodes)
	}
	if !slices.Equal(got.fixed, want.fixed) {
		t.Errorf("for good: %v, not %v", got.fixed, want.fixed)
	}
	if !slices.Equal(got.ops, want.ops) {
		t.Errorf("operations: %v, not %v", got.ops, want.ops)
	}
	if got.base != want.base {
		t.Errorf("base: %v, not %v", got.base, want.base)
	}
}

// applies puts operations into a tree, that takes them.
func applies(t *testing.T, x *Tree, l ...api.Op) {
	t.Helper()
	for _, o := range l {
		n := len(x.Ops())
		if e := x.Apply(o); e != api.OK || len(x.Ops()) != n+1 {
			t.Fatalf("Apply %v: %d", o, e)
		}
	}
}

// of is a tree of operations.
func of(t *testing.T, l ...api.Op) *Tree {
	t.Helper()
	x := New()
	applies(t, x, l...)
	return x
}

// stays holds that an operation is answered so, and that nothing changes.
func stays(t *testing.T, x *Tree, o api.Op, want api.Errno) {
	t.Helper()
	was := lookAt(x)
	for range 2 {
		if e := x.Apply(o); e != want {
			t.Errorf("Apply %v: %d, not %d", o, e, want)
		}
		sameLook(t, lookAt(x), was)
	}
}

// shows holds that these are the nodes of a tree, and that Get tells the same.
func shows(t *testing.T, x *Tree, want ...api.Node) {
	t.Helper()
	if l := x.Nodes(); !slices.Equal(l, want) {
		t.Errorf("Nodes: %v, not %v", l, want)
	}
	for _, n := range want {
		if got, ok := x.Get(n.Id); got != n || !ok {
			t.Errorf("Get %v: %v %t", n.Id, got, ok)
		}
	}
}

// compacts holds how many operations are done for good, and that the nodes stay.
func compacts(t *testing.T, x *Tree, upto api.Stamp, want int, base api.Stamp) {
	t.Helper()
	was := lookAt(x)
	if n := x.Compact(upto); n != want {
		t.Errorf("Compact %v: %d, not %d", upto, n, want)
	}
	sameLook(t, lookAt(x), look{nodes: was.nodes, fixed: nodesOf(was.fixed, was.ops[:want]), ops: was.ops[want:], base: base})
}

// opens is the tree of a snapshot, that may be.
func opens(t *testing.T, s api.Snap) *Tree {
	t.Helper()
	x, e := Of(s)
	if x == nil || e != api.OK {
		t.Fatalf("Of %v: %v %d", s, x, e)
	}
	return x
}

// opensNot holds that a snapshot is refused.
func opensNot(t *testing.T, s api.Snap, want api.Errno) {
	t.Helper()
	if x, e := Of(s); x != nil || e != want {
		t.Errorf("Of %v: %v %d, not %d", s, x, e, want)
	}
}

// rank is a number that rises as stamps of operations do.
func rank(s api.Stamp) int { return s.Time<<3 + s.Who }

// nodesOf are nodes with operations done, told by another way: in a list, what is below a node being sought from above.
func nodesOf(fixed []api.Node, ops []api.Op) []api.Node {
	l, ops := slices.Clone(fixed), slices.Clone(ops)
	sort.Slice(ops, func(i, j int) bool { return rank(ops[i].At) < rank(ops[j].At) })
	find := func(id api.Stamp) int { return slices.IndexFunc(l, func(n api.Node) bool { return n.Id == id }) }
	var below func(id api.Stamp) []api.Stamp
	below = func(id api.Stamp) []api.Stamp {
		var all []api.Stamp
		for _, n := range l {
			if n.Parent == id {
				all = append(append(all, n.Id), below(n.Id)...)
			}
		}
		return all
	}
	for _, o := range ops {
		i := find(o.Node)
		into := o.Parent
		if o.Kind == api.OpTrash {
			into = theTrash
		}
		isParent := slices.Contains(tops, into) || find(into) >= 0
		switch {
		case o.Kind == api.OpCreate && i < 0 && isParent:
			l = append(l, node(o.Node, into, o.Name, ""))
		case i < 0 || o.Kind == api.OpCreate:
		case o.Kind == api.OpRename:
			l[i].Name = o.Name
		case o.Kind == api.OpSet:
			l[i].Value = o.Value
		case isParent && into != o.Node && !slices.Contains(below(o.Node), into):
			l[i].Parent = into
		}
	}
	sort.Slice(l, func(i, j int) bool { return rank(l[i].Id) < rank(l[j].Id) })
	return l
}

// draw is a drawn operation at a stamp: mostly of nodes that were to be made.
func draw(r *rand.Rand, when api.Stamp, made []api.Stamp) api.Op {
	some := func() api.Stamp {
		if len(made) == 0 || r.Intn(8) == 0 {
			return stamp(1+r.Intn(when.Time+5), 1+r.Intn(2))
		}
		return made[r.Intn(len(made))]
	}
	parent := some()
	if r.Intn(6) == 0 {
		parent = tops[r.Intn(2)]
	}
	text := string(rune('a' + r.Intn(26)))
	switch r.Intn(16) {
	case 0:
		return trashOp(when, some())
	case 1:
		return renameOp(when, some(), text)
	case 2:
		return setOp(when, some(), text)
	case 3, 4, 5, 6, 7, 8, 9:
		return moveOp(when, some(), parent)
	}
	return createOp(when, parent, text)
}

// drawAll are drawn operations, of two clients, by their stamps: the first one creates.
func drawAll(r *rand.Rand, most int) []api.Op {
	l := []api.Op{createOp(at(1), tops[r.Intn(2)], "a")}
	made := []api.Stamp{at(1)}
	for time := 2; time <= most; time++ {
		for who := 1; who <= 2; who++ {
			if r.Intn(5) == 0 {
				continue
			}
			o := draw(r, stamp(time, who), made)
			l = append(l, o)
			if o.Kind == api.OpCreate {
				made = append(made, o.At)
			}
		}
	}
	return l
}

// turned are operations in a drawn order.
func turned(r *rand.Rand, l []api.Op) []api.Op {
	l = slices.Clone(l)
	r.Shuffle(len(l), func(i, j int) { l[i], l[j] = l[j], l[i] })
	return l
}

// leadUp holds that from each node parents lead to the root, or to the trash.
func leadUp(t *testing.T, l []api.Node) {
	t.Helper()
	parents := map[api.Stamp]api.Stamp{}
	for _, n := range l {
		parents[n.Id] = n.Parent
	}
	for _, n := range l {
		up := n.Id
		for range len(l) {
			if !slices.Contains(tops, up) {
				up = parents[up]
			}
		}
		if !slices.Contains(tops, up) {
			t.Fatalf("%v does not lead up", n)
		}
		if _, there := parents[n.Parent]; !there && !slices.Contains(tops, n.Parent) {
			t.Fatalf("%v stands below nothing", n)
		}
	}
}

// Tr1: Check.

func TestExample(t *testing.T) {
	a, b := at(1), at(2)
	l := []api.Op{createOp(a, api.Stamp{}, "a"), createOp(b, api.Stamp{}, "b"), moveOp(at(5), a, b), moveOp(at(6), b, a)}
	for _, i := range [][]int{{0, 1, 2, 3}, {3, 2, 1, 0}, {2, 3, 0, 1}, {0, 1, 3, 2}, {3, 0, 2, 1}} {
		x := of(t, l[i[0]], l[i[1]], l[i[2]], l[i[3]])
		shows(t, x, node(a, b, "a", ""), node(b, api.Stamp{}, "b", ""))
	}
}

// kinds are operations that may be, of each kind.
func kinds() []api.Op {
	return []api.Op{
		createOp(at(9), at(3), "a"), moveOp(at(9), at(2), at(3)), renameOp(at(9), at(2), "a"), setOp(at(9), at(2), "v"), trashOp(at(9), at(2)),
	}
}

func isCheck(t *testing.T, o api.Op, want api.Errno) {
	t.Helper()
	if e := Check(o); e != want {
		t.Errorf("Check of %v: %d, not %d", o, e, want)
	}
	// Apply refuses what Check does.
	if e := New().Apply(o); e != want {
		t.Errorf("Apply of %v: %d, not %d", o, e, want)
	}
}

func TestCheckOfEachKind(t *testing.T) {
	for k, o := range kinds() {
		if o.Kind != k+1 {
			t.Fatal(o)
		}
		isCheck(t, o, api.OK)
		for _, kind := range []int{0, 6, -1, 7, 1<<8 + o.Kind, 1<<32 + o.Kind, math.MinInt, math.MaxInt} {
			o.Kind = kind
			isCheck(t, o, api.ErrArg)
		}
	}
	isCheck(t, api.Op{}, api.ErrArg)
	isCheck(t, api.Op{At: at(1), Node: at(1)}, api.ErrArg)
	isCheck(t, api.Op{Kind: 6, At: at(1), Node: at(1)}, api.ErrArg)
}

func TestCheckOfFieldsThatMustBeEmpty(t *testing.T) {
	full := func(o api.Op, field string) api.Op {
		switch field {
		case "parent":
			o.Parent = at(3)
		case "trash":
			o.Parent = theTrash
		case "wild":
			o.Parent = stamp(-1, 0)
		case "name":
			o.Name = "a"
		case "none":
			o.Name = ".."
		case "value":
			o.Value = "v"
		case "nought":
			o.Value = "\x00"
		}
		return o
	}
	l := kinds()
	for _, c := range []struct {
		kind   int
		fields []string
	}{
		{api.OpCreate, []string{"value", "nought"}},
		{api.OpMove, []string{"name", "none", "value", "nought"}},
		{api.OpRename, []string{"parent", "trash", "wild", "value", "nought"}},
		{api.OpSet, []string{"parent", "trash", "wild", "name", "none"}},
		{api.OpTrash, []string{"parent", "trash", "wild", "name", "none", "value", "nought"}},
	} {
		for _, f := range c.fields {
			isCheck(t, full(l[c.kind-1], f), api.ErrArg)
		}
	}
}

func TestCheckOfFieldsThatMustBeThere(t *testing.T) {
	isCheck(t, api.Op{Kind: api.OpCreate, At: at(9), Node: at(9)}, api.ErrArg)
	isCheck(t, api.Op{Kind: api.OpCreate, At: at(9), Name: "a"}, api.ErrArg)
	isCheck(t, api.Op{Kind: api.OpRename, At: at(9), Node: at(2)}, api.ErrArg)
	for _, o := range kinds() {
		o.Node = api.Stamp{}
		isCheck(t, o, api.ErrArg)
	}
	for _, o := range kinds() {
		o.At = api.Stamp{}
		isCheck(t, o, api.ErrArg)
		// Of OpCreate Node is At, but both may not be.
		o.Node = api.Stamp{}
		isCheck(t, o, api.ErrArg)
	}
	// To move to the root, and to set to nothing, a field is empty that may be so.
	isCheck(t, api.Op{Kind: api.OpMove, At: at(9), Node: at(2)}, api.OK)
	isCheck(t, api.Op{Kind: api.OpSet, At: at(9), Node: at(2)}, api.OK)
	isCheck(t, api.Op{Kind: api.OpTrash, At: at(9), Node: at(2)}, api.OK)
	isCheck(t, api.Op{Kind: api.OpCreate, At: at(9), Node: at(9), Name: "a"}, api.OK)
}

func TestCheckOfParents(t *testing.T) {
	may := append(slices.Clone(tops), at(1), at(9), at(10), stamp(1, 6), stamp(api.MaxTime, 1), stamp(api.MaxTime, 6))
	for _, p := range may {
		isCheck(t, createOp(at(9), p, "a"), api.OK)
		isCheck(t, moveOp(at(9), at(2), p), api.OK)
	}
	for _, p := range noStamps {
		isCheck(t, createOp(at(9), p, "a"), api.ErrArg)
		isCheck(t, moveOp(at(9), at(2), p), api.ErrArg)
	}
	// Its own number, too, may be that of a parent: it is not done then.
	isCheck(t, moveOp(at(9), at(2), at(2)), api.OK)
}

func TestCheckOfStamps(t *testing.T) {
	for _, s := range []api.Stamp{at(1), stamp(1, 6), stamp(api.MaxTime, 1), stamp(api.MaxTime, 6)} {
		for _, o := range kinds() {
			o.At = s
			if o.Kind == api.OpCreate {
				o.Node = s
			}
			isCheck(t, o, api.OK)
		}
		for _, o := range kinds()[1:] {
			o.Node = s
			isCheck(t, o, api.OK)
		}
	}
	for _, s := range slices.Concat(noStamps, tops) {
		for _, o := range kinds() {
			o.At = s
			isCheck(t, o, api.ErrArg)
			o.Node = s
			isCheck(t, o, api.ErrArg)
		}
		for _, o := range kinds() {
			o.Node = s
			isCheck(t, o, api.ErrArg)
		}
	}
}

func TestCheckOfANodeThatIsNotAt(t *testing.T) {
	for _, s := range []api.Stamp{at(8), at(10), stamp(9, 2), {}, theTrash} {
		o := createOp(at(9), api.Stamp{}, "a")
		o.Node = s
		isCheck(t, o, api.ErrArg)
	}
	// Others may name any node, a later one, too.
	for _, s := range []api.Stamp{at(8), at(9), at(10), stamp(9, 2)} {
		isCheck(t, moveOp(at(9), s, api.Stamp{}), api.OK)
		isCheck(t, renameOp(at(9), s, "a"), api.OK)
		isCheck(t, setOp(at(9), s, "v"), api.OK)
		isCheck(t, trashOp(at(9), s), api.OK)
	}
}

func TestCheckOfNames(t *testing.T) {
	for _, s := range []string{"a", "...", "a b", "é", "a\xc2\xa0", strings.Repeat("a", api.MaxName), strings.Repeat("é", api.MaxName), strings.Repeat("\U0001f333", api.MaxName)} {
		isCheck(t, createOp(at(9), api.Stamp{}, s), api.OK)
		isCheck(t, renameOp(at(9), at(2), s), api.OK)
	}
	for _, s := range noNames {
		isCheck(t, createOp(at(9), api.Stamp{}, s), api.ErrArg)
		isCheck(t, renameOp(at(9), at(2), s), api.ErrArg)
	}
}

func TestCheckOfValues(t *testing.T) {
	for _, n := range []int{0, 1, 63, 64} {
		isCheck(t, setOp(at(9), at(2), strings.Repeat("v", n)), api.OK)
		isCheck(t, setOp(at(9), at(2), strings.Repeat("\xff", n)), api.OK)
	}
	for _, n := range []int{65, 66, 128, 1<<8 + 1, 1 << 16} {
		isCheck(t, setOp(at(9), at(2), strings.Repeat("v", n)), api.ErrArg)
	}
	// Bytes count, not runes.
	isCheck(t, setOp(at(9), at(2), strings.Repeat("é", 32)), api.OK)
	isCheck(t, setOp(at(9), at(2), strings.Repeat("é", 32)+"a"), api.ErrArg)
	isCheck(t, setOp(at(9), at(2), strings.Repeat("é", 33)), api.ErrArg)
	// What is no name may be a value.
	for _, s := range noNames {
		isCheck(t, setOp(at(9), at(2), s), api.OK)
	}
}

// mayBe tells whether an operation may be, by another way: which fields a kind has stands in a row of letters.
func mayBe(o api.Op) bool {
	if o.Kind < 1 || o.Kind > 5 {
		return false
	}
	isOne := func(s api.Stamp) bool { return s.Time > 0 && s.Time>>40 == 0 && s.Who > 0 && s.Who < 7 }
	has := []string{"pn", "p", "n", "v", ""}[o.Kind-1]
	parent := o.Parent == api.Stamp{}
	if strings.Contains(has, "p") {
		parent = isOne(o.Parent) || slices.Contains(tops, o.Parent)
	}
	named := o.Name == ""
	if strings.Contains(has, "n") {
		named = !slices.Contains(noNames, o.Name)
	}
	value := o.Value == "" || strings.Contains(has, "v") && len(o.Value) < 65
	return isOne(o.At) && isOne(o.Node) && parent && named && value && (o.Kind > 1 || o.Node == o.At)
}

func TestCheckOfDrawnFields(t *testing.T) {
	r := rand.New(rand.NewSource(11))
	stamps := slices.Concat([]api.Stamp{at(1), at(2), at(3), stamp(4, 6), stamp(api.MaxTime, 6)}, tops, tops)
	names := []string{"", "", "", "a", "b", "..", "a/b"}
	values := []string{"", "", "", "v", strings.Repeat("v", 64), strings.Repeat("v", 65)}
	some := func() api.Stamp {
		if r.Intn(8) == 0 {
			return stamp(wild[r.Intn(len(wild))], wild[r.Intn(len(wild))])
		}
		return stamps[r.Intn(len(stamps))]
	}
	yes := 0
	for range 200000 {
		o := api.Op{Kind: r.Intn(7), At: some(), Node: some(), Parent: some(), Name: names[r.Intn(len(names))], Value: values[r.Intn(len(values))]}
		if r.Intn(2) == 0 {
			o.Node = o.At
		}
		want := api.ErrArg
		if mayBe(o) {
			want = api.OK
			yes++
		}
		if e := Check(o); e != want {
			t.Fatalf("Check of %v: %d, not %d", o, e, want)
		}
	}
	if yes < 1000 {
		t.Error("too few may be:", yes)
	}
}

// Tr1: New and Apply.

func TestNew(t *testing.T) {
	x, y := New(), New()
	if x == nil || y == nil || x == y {
		t.Fatal(x, y)
	}
	sameLook(t, lookAt(x), look{})
	applies(t, x, createOp(at(1), api.Stamp{}, "a"))
	// One knows nothing of another one.
	sameLook(t, lookAt(y), look{})
	sameLook(t, lookAt(New()), look{})
}

func TestApplyAtTheBase(t *testing.T) {
	base := stamp(5, 3)
	fresh := func() *Tree { return opens(t, api.Snap{Base: base}) }
	compacted := func() *Tree {
		x := New()
		compacts(t, x, base, 0, base)
		return x
	}
	for _, x := range []func() *Tree{fresh, compacted} {
		for _, s := range []api.Stamp{base, stamp(5, 2), stamp(5, 1), stamp(4, 6), stamp(4, 3), at(1)} {
			stays(t, x(), createOp(s, api.Stamp{}, "a"), api.ErrArg)
			stays(t, x(), trashOp(s, at(9)), api.ErrArg)
		}
		for _, s := range []api.Stamp{stamp(5, 4), stamp(5, 6), stamp(6, 1), stamp(6, 3), stamp(api.MaxTime, 6)} {
			applies(t, x(), createOp(s, api.Stamp{}, "a"))
			applies(t, x(), trashOp(s, at(1)))
		}
	}
	// Behind the root stands every stamp of an operation.
	applies(t, New(), createOp(at(1), api.Stamp{}, "a"))
}

func TestApplyOfWhatWasDoneForGood(t *testing.T) {
	o := createOp(at(3), api.Stamp{}, "a")
	x := of(t, o, setOp(at(4), at(3), "v"))
	compacts(t, x, at(3), 1, at(3))
	stays(t, x, o, api.ErrArg)
	stays(t, x, createOp(at(2), api.Stamp{}, "b"), api.ErrArg)
	stays(t, x, setOp(at(4), at(3), "v"), api.OK)
	compacts(t, x, stamp(4, 6), 1, stamp(4, 6))
	stays(t, x, setOp(at(4), at(3), "v"), api.ErrArg)
	stays(t, x, setOp(stamp(4, 6), at(3), "v"), api.ErrArg)
	applies(t, x, setOp(at(5), at(3), "w"))
	shows(t, x, node(at(3), api.Stamp{}, "a", "w"))
}

func TestApplyTwice(t *testing.T) {
	l := []api.Op{createOp(at(1), api.Stamp{}, "a"), createOp(stamp(1, 2), at(1), "b"), setOp(at(4), at(1), "v"), renameOp(at(6), at(1), "c"), trashOp(at(7), stamp(1, 2))}
	x := of(t, l...)
	for _, o := range l {
		stays(t, x, o, api.OK)
		// Another one with the same stamp.
		for _, other := range []api.Op{createOp(o.At, theTrash, "z"), trashOp(o.At, at(1)), setOp(o.At, at(1), "z"), moveOp(o.At, at(1), theTrash), renameOp(o.At, at(1), "z")} {
			stays(t, x, other, api.OK)
		}
		// One that may not be is refused, though there is one with its stamp.
		stays(t, x, api.Op{Kind: 6, At: o.At, Node: o.Node}, api.ErrArg)
		stays(t, x, api.Op{Kind: api.OpTrash, At: o.At, Node: at(1), Name: "z"}, api.ErrArg)
	}
	if len(x.Ops()) != len(l) {
		t.Error(x.Ops())
	}
	// The same time of another client is another stamp.
	applies(t, x, setOp(stamp(4, 2), at(1), "w"))
	shows(t, x, node(at(1), api.Stamp{}, "c", "w"), node(stamp(1, 2), theTrash, "b", ""))
}

// fill puts OpSets into a tree, one a time, till it has so many operations.
func fill(t *testing.T, x *Tree, n int) {
	t.Helper()
	for k := len(x.Ops()); k < n; k++ {
		if e := x.Apply(setOp(stamp(1000+k, 2), at(1), "v")); e != api.OK {
			t.Fatal(k, e)
		}
	}
	if len(x.Ops()) != n {
		t.Fatal(len(x.Ops()))
	}
}

func TestTheLastOperation(t *testing.T) {
	last, one := setOp(at(5000), at(1), "last"), createOp(at(1), api.Stamp{}, "a")
	x := of(t, one)
	fill(t, x, 511)
	applies(t, x, last)
	if len(x.Ops()) != api.MaxOps {
		t.Fatal(len(x.Ops()))
	}
	// The 513th one is refused, of any kind, wherever it stands.
	for _, when := range []api.Stamp{at(2), at(1200), at(5001), at(api.MaxTime)} {
		stays(t, x, createOp(when, api.Stamp{}, "b"), api.ErrFull)
		stays(t, x, moveOp(when, at(1), theTrash), api.ErrFull)
		stays(t, x, renameOp(when, at(1), "b"), api.ErrFull)
		stays(t, x, setOp(when, at(1), "w"), api.ErrFull)
		stays(t, x, trashOp(when, at(1)), api.ErrFull)
	}
	// What is among them is not refused, and what may not be is so by another error.
	stays(t, x, last, api.OK)
	stays(t, x, one, api.OK)
	stays(t, x, createOp(at(1), api.Stamp{}, "other"), api.OK)
	stays(t, x, setOp(at(2), at(1), strings.Repeat("v", 65)), api.ErrArg)
	stays(t, x, api.Op{}, api.ErrArg)
	shows(t, x, node(at(1), api.Stamp{}, "a", "last"))
}

func TestWhatIsForGoodMakesRoom(t *testing.T) {
	x := of(t, createOp(at(1), api.Stamp{}, "a"))
	fill(t, x, 512)
	stays(t, x, trashOp(at(5000), at(1)), api.ErrFull)
	compacts(t, x, at(1), 1, at(1))
	applies(t, x, trashOp(at(5000), at(1)))
	stays(t, x, trashOp(at(5001), at(1)), api.ErrFull)
	// At the base: refused, but not for want of room.
	stays(t, x, trashOp(at(1), at(1)), api.ErrArg)
	compacts(t, x, at(4999), 511, at(4999))
	for k := range 511 {
		applies(t, x, setOp(at(6000+k), at(1), "w"))
	}
	stays(t, x, setOp(at(7000), at(1), "w"), api.ErrFull)
	shows(t, x, node(at(1), theTrash, "a", "w"))
}

func TestTheLastCreate(t *testing.T) {
	x := New()
	for k := range 511 {
		applies(t, x, createOp(at(1+k), api.Stamp{}, "a"))
	}
	applies(t, x, createOp(at(512), api.Stamp{}, "a"))
	if len(x.Nodes()) != api.MaxNodes || len(x.Ops()) != api.MaxOps {
		t.Fatal(len(x.Nodes()), len(x.Ops()))
	}
	stays(t, x, createOp(at(513), api.Stamp{}, "a"), api.ErrFull)
	compacts(t, x, at(512), 512, at(512))
	// There is room for operations again, but for no node.
	stays(t, x, createOp(at(513), api.Stamp{}, "a"), api.ErrFull)
	applies(t, x, trashOp(at(514), at(1)), moveOp(at(515), at(2), at(3)), renameOp(at(516), at(2), "b"), setOp(at(517), at(2), "v"))
	compacts(t, x, at(600), 4, at(600))
	// What is in the trash is a node, too.
	stays(t, x, createOp(at(601), api.Stamp{}, "a"), api.ErrFull)
	stays(t, x, createOp(at(600), api.Stamp{}, "a"), api.ErrArg)
}

func TestTheLastCreateWhereSomeAreForGood(t *testing.T) {
	for _, fixed := range []int{1, 100, 500, 511} {
		x := New()
		for k := range fixed {
			applies(t, x, createOp(at(1+k), api.Stamp{}, "a"))
		}
		compacts(t, x, at(fixed), fixed, at(fixed))
		for k := fixed; k < 512; k++ {
			applies(t, x, createOp(at(1001+k), api.Stamp{}, "a"))
		}
		stays(t, x, createOp(at(600), api.Stamp{}, "a"), api.ErrFull)
		stays(t, x, createOp(at(2000), api.Stamp{}, "a"), api.ErrFull)
		stays(t, x, createOp(at(1001+511), theTrash, "b"), api.OK)
		applies(t, x, setOp(at(600), at(1), "v"))
		if len(x.Nodes()) != 512 {
			t.Error(len(x.Nodes()))
		}
		compacts(t, x, at(1001+fixed), 2, at(1001+fixed))
		stays(t, x, createOp(at(2001), api.Stamp{}, "a"), api.ErrFull)
	}
}

func TestCreatesThatAreNotDone(t *testing.T) {
	x := New()
	// Two that are done, 510 whose parent is none, in two halves.
	applies(t, x, createOp(at(1), api.Stamp{}, "a"))
	for k := range 255 {
		applies(t, x, createOp(at(2+k), at(9999), "a"))
	}
	if len(x.Nodes()) != 1 {
		t.Error(x.Nodes())
	}
	compacts(t, x, at(2), 2, at(2))
	for k := range 257 {
		applies(t, x, createOp(at(1000+k), at(9999), "a"))
	}
	// 511 that are not done, and one node.
	stays(t, x, createOp(at(5000), api.Stamp{}, "b"), api.ErrFull)
	applies(t, x, setOp(at(5000), at(1), "v"))
	stays(t, x, createOp(at(5001), api.Stamp{}, "b"), api.ErrFull)
	// For good, they are no nodes: there is room for others.
	compacts(t, x, at(3), 1, at(3))
	applies(t, x, createOp(at(5001), api.Stamp{}, "b"))
	stays(t, x, createOp(at(5002), api.Stamp{}, "b"), api.ErrFull)
	compacts(t, x, at(6000), 512, at(6000))
	shows(t, x, node(at(1), api.Stamp{}, "a", "v"), node(at(5001), api.Stamp{}, "b", ""))
	for k := range 510 {
		applies(t, x, createOp(at(6001+k), api.Stamp{}, "c"))
	}
	stays(t, x, createOp(at(7000), api.Stamp{}, "b"), api.ErrFull)
}

func TestARefusedApplyChangesNothing(t *testing.T) {
	x := of(t, createOp(at(5), api.Stamp{}, "a"), createOp(at(6), at(5), "b"), setOp(at(8), at(5), "v"))
	compacts(t, x, at(5), 1, at(5))
	for _, o := range []api.Op{
		{}, {Kind: 9, At: at(9), Node: at(5)}, createOp(at(9), stamp(0, 2), "c"), createOp(at(9), api.Stamp{}, ".."), setOp(at(9), at(5), strings.Repeat("v", 65)),
		moveOp(at(9), api.Stamp{}, at(5)), trashOp(stamp(9, 7), at(5)), trashOp(at(5), at(5)), trashOp(at(4), at(5)), trashOp(api.Stamp{}, at(5)),
	} {
		stays(t, x, o, api.ErrArg)
	}
}

// Tr1: what it is to do an operation.

func TestToCreate(t *testing.T) {
	for _, p := range tops {
		shows(t, of(t, createOp(at(1), p, "a")), node(at(1), p, "a", ""))
	}
	shows(t, of(t, createOp(at(1), api.Stamp{}, "a"), createOp(at(2), at(1), "b"), createOp(at(3), at(2), "c")), node(at(1), api.Stamp{}, "a", ""), node(at(2), at(1), "b", ""), node(at(3), at(2), "c", ""))
	// The same name may be there more than once.
	shows(t, of(t, createOp(at(1), api.Stamp{}, "a"), createOp(at(2), api.Stamp{}, "a")), node(at(1), api.Stamp{}, "a", ""), node(at(2), api.Stamp{}, "a", ""))
	// No parent, itself as parent, and one that is made later.
	shows(t, of(t, createOp(at(1), at(9), "a")))
	shows(t, of(t, createOp(at(1), at(1), "a")))
	shows(t, of(t, createOp(at(1), at(2), "a"), createOp(at(2), api.Stamp{}, "b")), node(at(2), api.Stamp{}, "b", ""))
	// What was to stand below it is not there either.
	shows(t, of(t, createOp(at(1), at(9), "a"), createOp(at(2), at(1), "b"), createOp(at(3), at(2), "c")))
}

func TestToCreateWhatIsThere(t *testing.T) {
	x := of(t, createOp(at(1), api.Stamp{}, "a"), setOp(at(2), at(1), "v"))
	stays(t, x, createOp(at(1), theTrash, "b"), api.OK)
	shows(t, x, node(at(1), api.Stamp{}, "a", "v"))
	compacts(t, x, at(2), 2, at(2))
	stays(t, x, createOp(at(1), theTrash, "b"), api.ErrArg)
	shows(t, x, node(at(1), api.Stamp{}, "a", "v"))
}

func TestCreateBesideWhatIsThere(t *testing.T) {
	// No list of operations of a tree has one for a node that is there: so it is done by hand.
	l := nodesById{}
	l.do(createOp(at(1), api.Stamp{}, "a"))
	l.do(setOp(at(2), at(1), "v"))
	l.do(createOp(at(1), theTrash, "b"))
	if got := l.list(); !slices.Equal(got, []api.Node{node(at(1), api.Stamp{}, "a", "v")}) {
		t.Error(got)
	}
}

func TestToChangeANodeThatIsNotThere(t *testing.T) {
	a := node(at(1), api.Stamp{}, "a", "")
	one := createOp(at(1), api.Stamp{}, "a")
	for _, id := range []api.Stamp{at(9), stamp(1, 2), at(2), stamp(2, 1)} {
		shows(t, of(t, one, moveOp(at(2), id, at(1))), a)
		shows(t, of(t, one, moveOp(at(2), id, api.Stamp{})), a)
		shows(t, of(t, one, moveOp(at(2), id, id)), a)
		shows(t, of(t, one, renameOp(at(2), id, "b")), a)
		shows(t, of(t, one, setOp(at(2), id, "v")), a)
		shows(t, of(t, one, trashOp(at(2), id)), a)
	}
	for _, o := range kinds()[1:] {
		shows(t, of(t, o))
	}
}

func TestToChangeANodeAheadOfItself(t *testing.T) {
	// The operations stand ahead of the OpCreate: they are not done, whichever comes first.
	early := []api.Op{moveOp(at(1), at(5), theTrash), renameOp(at(2), at(5), "b"), setOp(at(3), at(5), "v"), trashOp(at(4), at(5))}
	one := createOp(at(5), api.Stamp{}, "a")
	shows(t, of(t, append(early, one)...), node(at(5), api.Stamp{}, "a", ""))
	shows(t, of(t, append([]api.Op{one}, early...)...), node(at(5), api.Stamp{}, "a", ""))
	// At the same time, but by Who.
	two := createOp(stamp(5, 3), api.Stamp{}, "a")
	shows(t, of(t, two, setOp(stamp(5, 2), stamp(5, 3), "v")), node(stamp(5, 3), api.Stamp{}, "a", ""))
	shows(t, of(t, two, setOp(stamp(5, 4), stamp(5, 3), "v")), node(stamp(5, 3), api.Stamp{}, "a", "v"))
}

func TestToChangeANodeWhoseCreateComesLater(t *testing.T) {
	x := of(t, setOp(at(5), at(1), "v"), renameOp(at(6), at(1), "b"))
	shows(t, x)
	if n, ok := x.Get(at(1)); n != (api.Node{}) || ok {
		t.Error(n, ok)
	}
	applies(t, x, createOp(at(1), api.Stamp{}, "a"))
	shows(t, x, node(at(1), api.Stamp{}, "b", "v"))
	// One in between takes its place.
	applies(t, x, setOp(stamp(5, 2), at(1), "w"), renameOp(stamp(5, 2+1), at(1), "c"))
	shows(t, x, node(at(1), api.Stamp{}, "b", "w"))
	// A parent that comes later.
	y := of(t, createOp(at(2), at(1), "b"), moveOp(at(4), at(3), at(2)), createOp(at(3), api.Stamp{}, "c"))
	shows(t, y, node(at(3), api.Stamp{}, "c", ""))
	applies(t, y, createOp(at(1), api.Stamp{}, "a"))
	shows(t, y, node(at(1), api.Stamp{}, "a", ""), node(at(2), at(1), "b", ""), node(at(3), at(2), "c", ""))
}

// three are a, b below a, c below b, and d beside a.
func three() []api.Op {
	return []api.Op{createOp(at(1), api.Stamp{}, "a"), createOp(at(2), at(1), "b"), createOp(at(3), at(2), "c"), createOp(at(4), api.Stamp{}, "d")}
}

func parents(l []api.Node) []api.Stamp {
	var up []api.Stamp
	for _, n := range l {
		up = append(up, n.Parent)
	}
	return up
}

func TestToMove(t *testing.T) {
	a, b, c, d := at(1), at(2), at(3), at(4)
	top := api.Stamp{}
	for _, m := range []struct {
		id, parent api.Stamp
		want       []api.Stamp
	}{
		{c, a, []api.Stamp{top, a, a, top}}, {c, top, []api.Stamp{top, a, top, top}}, {c, theTrash, []api.Stamp{top, a, theTrash, top}}, {c, d, []api.Stamp{top, a, d, top}},
		{a, d, []api.Stamp{d, a, b, top}}, {d, c, []api.Stamp{top, a, b, c}}, {b, d, []api.Stamp{top, d, b, top}},
		// To where it is.
		{b, a, []api.Stamp{top, a, b, top}}, {a, top, []api.Stamp{top, a, b, top}},
		// Into itself, and below itself.
		{a, a, []api.Stamp{top, a, b, top}}, {a, b, []api.Stamp{top, a, b, top}}, {a, c, []api.Stamp{top, a, b, top}},
		{b, b, []api.Stamp{top, a, b, top}}, {b, c, []api.Stamp{top, a, b, top}}, {c, c, []api.Stamp{top, a, b, top}},
		// A parent that is none.
		{a, at(9), []api.Stamp{top, a, b, top}}, {c, stamp(1, 2), []api.Stamp{top, a, b, top}}, {c, at(5), []api.Stamp{top, a, b, top}},
	} {
		x := of(t, append(three(), moveOp(at(5), m.id, m.parent))...)
		if l := parents(x.Nodes()); !slices.Equal(l, m.want) {
			t.Errorf("%v to %v: %v, not %v", m.id, m.parent, l, m.want)
		}
		// Neither its name nor its value is another one by that.
		y := of(t, append(three(), setOp(at(5), m.id, "v"), moveOp(at(6), m.id, m.parent))...)
		for _, n := range y.Nodes() {
			if (n.Value == "v") != (n.Id == m.id) || n.Name != string(rune('a'+n.Id.Time-1)) {
				t.Error(n)
			}
		}
	}
}

func TestToMoveBelowWhatMovedAway(t *testing.T) {
	a, b, c, d := at(1), at(2), at(3), at(4)
	// Once c stands beside a, a may stand below it.
	x := of(t, append(three(), moveOp(at(5), c, api.Stamp{}), moveOp(at(6), a, c))...)
	if l := parents(x.Nodes()); !slices.Equal(l, []api.Stamp{c, a, {}, {}}) {
		t.Error(l)
	}
	// Should one come in between, by which c goes with d below b, it may not.
	applies(t, x, moveOp(stamp(5, 2), c, d), moveOp(stamp(5, 3), d, b))
	if l := parents(x.Nodes()); !slices.Equal(l, []api.Stamp{{}, a, d, b}) {
		t.Error(l)
	}
}

func TestToTrashAndBack(t *testing.T) {
	x := of(t, three()...)
	applies(t, x, trashOp(at(5), at(2)))
	shows(t, x, node(at(1), api.Stamp{}, "a", ""), node(at(2), theTrash, "b", ""), node(at(3), at(2), "c", ""), node(at(4), api.Stamp{}, "d", ""))
	// What is in the trash is changed as others are, and is a parent.
	applies(t, x, setOp(at(6), at(2), "v"), renameOp(at(7), at(3), "e"), createOp(at(8), at(3), "f"), moveOp(at(9), at(4), at(8)), trashOp(at(10), at(2)))
	shows(t, x, node(at(1), api.Stamp{}, "a", ""), node(at(2), theTrash, "b", "v"), node(at(3), at(2), "e", ""), node(at(4), at(8), "d", ""), node(at(8), at(3), "f", ""))
	applies(t, x, moveOp(at(11), at(2), at(1)))
	shows(t, x, node(at(1), api.Stamp{}, "a", ""), node(at(2), at(1), "b", "v"), node(at(3), at(2), "e", ""), node(at(4), at(8), "d", ""), node(at(8), at(3), "f", ""))
	// By OpMove, too.
	applies(t, x, moveOp(at(12), at(3), theTrash), moveOp(at(13), at(4), api.Stamp{}))
	shows(t, x, node(at(1), api.Stamp{}, "a", ""), node(at(2), at(1), "b", "v"), node(at(3), theTrash, "e", ""), node(at(4), api.Stamp{}, "d", ""), node(at(8), at(3), "f", ""))
}

func TestToRenameAndToSet(t *testing.T) {
	long := strings.Repeat("v", 64)
	x := of(t, append(three(), renameOp(at(5), at(2), "a"), setOp(at(6), at(2), long), setOp(at(7), at(3), "w"), setOp(at(8), at(3), ""))...)
	shows(t, x, node(at(1), api.Stamp{}, "a", ""), node(at(2), at(1), "a", long), node(at(3), at(2), "c", ""), node(at(4), api.Stamp{}, "d", ""))
	// The last one by its stamp holds, not the one that came last.
	applies(t, x, renameOp(stamp(5, 2), at(2), "z"), renameOp(at(10), at(2), "y"), renameOp(at(9), at(2), "x"), setOp(stamp(6, 3), at(2), "3"), setOp(stamp(6, 2), at(2), "2"))
	shows(t, x, node(at(1), api.Stamp{}, "a", ""), node(at(2), at(1), "y", "3"), node(at(3), at(2), "c", ""), node(at(4), api.Stamp{}, "d", ""))
}

// Tr1: Compact.

func TestCompactOfNoStamp(t *testing.T) {
	x := of(t, append(three(), trashOp(at(5), at(2)))...)
	compacts(t, x, at(2), 2, at(2))
	for _, s := range slices.Concat(noStamps, tops) {
		compacts(t, x, s, 0, at(2))
		compacts(t, New(), s, 0, api.Stamp{})
	}
}

func TestCompactAtEachPlace(t *testing.T) {
	l := []api.Op{
		createOp(stamp(2, 2), api.Stamp{}, "a"), createOp(stamp(2, 4), stamp(2, 2), "b"), moveOp(stamp(4, 1), stamp(2, 2), stamp(2, 4)),
		setOp(stamp(4, 6), stamp(2, 2), "v"), trashOp(stamp(6, 3), stamp(2, 4)), renameOp(stamp(8, 3), stamp(2, 4), "c"),
	}
	for _, c := range []struct {
		upto api.Stamp
		want int
	}{
		{at(1), 0}, {stamp(2, 1), 0}, {stamp(2, 2), 1}, {stamp(2, 3), 1}, {stamp(2, 4), 2}, {stamp(2, 6), 2}, {stamp(3, 1), 2}, {stamp(3, 6), 2},
		{stamp(4, 1), 3}, {stamp(4, 2), 3}, {stamp(4, 6), 4}, {stamp(5, 1), 4}, {stamp(6, 2), 4}, {stamp(6, 3), 5}, {stamp(8, 2), 5}, {stamp(8, 3), 6},
		{stamp(8, 4), 6}, {stamp(9, 1), 6}, {stamp(api.MaxTime, 6), 6},
	} {
		x := of(t, l...)
		compacts(t, x, c.upto, c.want, c.upto)
		// Twice: nothing more.
		compacts(t, x, c.upto, 0, c.upto)
		// Ahead of the base: it stays.
		compacts(t, x, at(1), 0, c.upto)
		compacts(t, x, stamp(api.MaxTime, 6), 6-c.want, stamp(api.MaxTime, 6))
		if len(x.Ops()) != 0 {
			t.Error(x.Ops())
		}
	}
}

func TestCompactWithoutOperations(t *testing.T) {
	x := New()
	for _, s := range []api.Stamp{stamp(3, 2), stamp(3, 4), stamp(5, 1)} {
		compacts(t, x, s, 0, s)
	}
	for _, s := range []api.Stamp{stamp(5, 1), stamp(4, 6), stamp(3, 4), at(1)} {
		compacts(t, x, s, 0, stamp(5, 1))
	}
	compacts(t, x, stamp(5, 2), 0, stamp(5, 2))
}

func TestCompactStepByStep(t *testing.T) {
	l := append(three(), moveOp(at(5), at(3), at(4)), moveOp(at(6), at(4), at(1)), trashOp(at(7), at(2)))
	x := of(t, l...)
	for k := range l {
		compacts(t, x, at(k+1), 1, at(k+1))
	}
	sameLook(t, lookAt(x), look{nodes: nodesOf(nil, l), fixed: nodesOf(nil, l), base: at(7)})
}

func TestCompactAheadOfWhatIsAsked(t *testing.T) {
	// Nodes were asked for neither ahead of Compact nor between it and another operation.
	x := New()
	for _, o := range append(three(), setOp(at(9), at(2), "v")) {
		x.Apply(o)
	}
	if n := x.Compact(at(3)); n != 3 {
		t.Error(n)
	}
	x.Apply(moveOp(at(5), at(2), at(4)))
	shows(t, x, node(at(1), api.Stamp{}, "a", ""), node(at(2), at(4), "b", "v"), node(at(3), at(2), "c", ""), node(at(4), api.Stamp{}, "d", ""))
	sameLook(t, lookAt(x), look{nodes: x.Nodes(), fixed: nodesOf(nil, three()[:3]), ops: []api.Op{three()[3], moveOp(at(5), at(2), at(4)), setOp(at(9), at(2), "v")}, base: at(3)})
}

// Tr2.

func TestOpsAndNodesAreInOrder(t *testing.T) {
	l := []api.Op{
		createOp(stamp(1, 6), api.Stamp{}, "a"), createOp(stamp(2, 1), api.Stamp{}, "b"), createOp(stamp(2, 2), api.Stamp{}, "c"), createOp(stamp(2, 6), api.Stamp{}, "d"),
		createOp(stamp(10, 1), api.Stamp{}, "e"), createOp(stamp(1<<32, 2), api.Stamp{}, "f"), createOp(stamp(api.MaxTime-1, 6), api.Stamp{}, "g"), createOp(stamp(api.MaxTime, 1), api.Stamp{}, "h"),
	}
	r := rand.New(rand.NewSource(12))
	for range 50 {
		x := of(t, turned(r, l)...)
		sameLook(t, lookAt(x), look{nodes: nodesOf(nil, l), ops: l})
		compacts(t, x, stamp(10, 1), 5, stamp(10, 1))
		sameLook(t, lookAt(x), look{nodes: nodesOf(nil, l), fixed: nodesOf(nil, l[:5]), ops: l[5:], base: stamp(10, 1)})
	}
}

func TestGet(t *testing.T) {
	x := of(t, append(three(), setOp(at(5), at(3), "v"), trashOp(at(6), at(4)))...)
	compacts(t, x, at(3), 3, at(3))
	for _, n := range []api.Node{node(at(1), api.Stamp{}, "a", ""), node(at(3), at(2), "c", "v"), node(at(4), theTrash, "d", "")} {
		if got, ok := x.Get(n.Id); got != n || !ok {
			t.Errorf("Get %v: %v %t", n.Id, got, ok)
		}
	}
	for _, s := range slices.Concat(noStamps, tops, []api.Stamp{at(5), at(6), stamp(1, 2), at(api.MaxTime)}) {
		if n, ok := x.Get(s); n != (api.Node{}) || ok {
			t.Errorf("Get %v: %v %t", s, n, ok)
		}
		if n, ok := New().Get(s); n != (api.Node{}) || ok {
			t.Errorf("Get %v: %v %t", s, n, ok)
		}
	}
}

func TestGetAheadOfAllElse(t *testing.T) {
	// Get alone is asked: as each one comes, and of a tree that Of gave.
	x := New()
	for k, o := range append(three(), setOp(at(6), at(1), "v"), moveOp(at(7), at(2), at(4))) {
		x.Apply(o)
		want := nodesOf(nil, append(three(), setOp(at(6), at(1), "v"), moveOp(at(7), at(2), at(4)))[:k+1])
		for _, n := range want {
			if got, ok := x.Get(n.Id); got != n || !ok {
				t.Errorf("Get %v: %v %t", n.Id, got, ok)
			}
		}
	}
	y := opens(t, small())
	if n, ok := y.Get(at(6)); n != node(at(6), at(1), "d", "w") || !ok {
		t.Error(n, ok)
	}
	z := opens(t, small())
	if n, ok := z.Get(at(1)); n != small().Nodes[0] || !ok {
		t.Error(n, ok)
	}
}

func TestFixedAreAsOfTheBase(t *testing.T) {
	x := of(t, append(three(), setOp(at(5), at(1), "v"), trashOp(at(6), at(1)), renameOp(at(7), at(2), "z"))...)
	if l := x.Fixed(); len(l) != 0 {
		t.Error(l)
	}
	x.Compact(at(2))
	if l := x.Fixed(); !slices.Equal(l, []api.Node{node(at(1), api.Stamp{}, "a", ""), node(at(2), at(1), "b", "")}) {
		t.Error(l)
	}
	x.Compact(at(5))
	if l := x.Fixed(); !slices.Equal(l, []api.Node{node(at(1), api.Stamp{}, "a", "v"), node(at(2), at(1), "b", ""), node(at(3), at(2), "c", ""), node(at(4), api.Stamp{}, "d", "")}) {
		t.Error(l)
	}
}

func TestWhatWasHandedOut(t *testing.T) {
	x := of(t, append(three(), setOp(at(5), at(1), "v"), setOp(at(6), at(1), "w"))...)
	compacts(t, x, at(2), 2, at(2))
	was := lookAt(x)
	for range 2 {
		ops, nodes, fixed := x.Ops(), x.Nodes(), x.Fixed()
		for i := range ops {
			ops[i] = api.Op{Name: "over"}
		}
		for i := range nodes {
			nodes[i] = api.Node{Name: "over"}
		}
		for i := range fixed {
			fixed[i] = api.Node{Name: "over"}
		}
		// Nor does what is put behind their ends.
		_, _, _ = append(ops, api.Op{Name: "over"}), append(nodes, api.Node{}), append(fixed, api.Node{})
		sameLook(t, lookAt(x), was)
		shows(t, x, was.nodes...)
	}
	// What was handed out stays as it was, whatever comes.
	held := lookAt(x)
	applies(t, x, trashOp(stamp(3, 2), at(1)), createOp(stamp(2, 2), api.Stamp{}, "z"))
	compacts(t, x, at(4), 4, at(4))
	sameLook(t, held, was)
}

// Tr3.

// snapOf is what a tree is made of.
func snapOf(x *Tree) api.Snap {
	return api.Snap{Nodes: x.Fixed(), Ops: x.Ops(), Base: x.Base()}
}

// small is a snapshot that may be: a, b below a, c in the trash; d comes by an operation, and is set.
func small() api.Snap {
	return api.Snap{
		Nodes: []api.Node{node(at(1), api.Stamp{}, "a", "v"), node(stamp(1, 2), at(1), "b", ""), node(at(3), theTrash, "c", "")},
		Ops:   []api.Op{createOp(at(6), at(1), "d"), setOp(at(7), at(6), "w")},
		Base:  stamp(5, 3),
	}
}

func TestOf(t *testing.T) {
	s := small()
	x := opens(t, s)
	sameLook(t, lookAt(x), look{nodes: append(slices.Clone(s.Nodes), node(at(6), at(1), "d", "w")), fixed: s.Nodes, ops: s.Ops, base: s.Base})
	// It goes on as others do.
	stays(t, x, trashOp(s.Base, at(1)), api.ErrArg)
	applies(t, x, trashOp(stamp(5, 4), at(1)), moveOp(at(8), stamp(1, 2), at(3)))
	compacts(t, x, at(6), 2, at(6))
	shows(t, x, node(at(1), theTrash, "a", "v"), node(stamp(1, 2), at(3), "b", ""), node(at(3), theTrash, "c", ""), node(at(6), at(1), "d", "w"))
	// An empty one is as New gives it.
	sameLook(t, lookAt(opens(t, api.Snap{})), look{})
	sameLook(t, lookAt(opens(t, api.Snap{Nodes: []api.Node{}, Ops: []api.Op{}})), look{})
	if opens(t, api.Snap{}) == opens(t, api.Snap{}) {
		t.Error("one tree twice")
	}
}

func TestOfOfNodesThatMayNotBe(t *testing.T) {
	opens(t, small())
	for k, change := range []func(s *api.Snap){
		// Not by rising numbers.
		func(s *api.Snap) { s.Nodes[0], s.Nodes[1] = s.Nodes[1], s.Nodes[0] },
		func(s *api.Snap) { s.Nodes[1], s.Nodes[2] = s.Nodes[2], s.Nodes[1] },
		func(s *api.Snap) { s.Nodes[1].Id = at(1) },
		func(s *api.Snap) { s.Nodes[2].Id = stamp(1, 2) },
		func(s *api.Snap) { s.Nodes = append(s.Nodes, s.Nodes[2]) },
		func(s *api.Snap) { s.Nodes = append(s.Nodes, node(at(2), api.Stamp{}, "e", "")) },
		// Behind Base.
		func(s *api.Snap) { s.Nodes = append(s.Nodes, node(stamp(5, 4), api.Stamp{}, "e", "")) },
		func(s *api.Snap) { s.Nodes = append(s.Nodes, node(at(6), api.Stamp{}, "e", "")) },
		func(s *api.Snap) { s.Nodes[2].Id = at(api.MaxTime) },
		func(s *api.Snap) { s.Base = at(2) },
		func(s *api.Snap) { s.Base = stamp(1, 2) },
		func(s *api.Snap) { s.Base = api.Stamp{} },
		func(s *api.Snap) { s.Base, s.Ops = api.Stamp{}, nil },
		// A parent that is none of them.
		func(s *api.Snap) { s.Nodes[1].Parent = at(2) },
		func(s *api.Snap) { s.Nodes[1].Parent = stamp(3, 2) },
		func(s *api.Snap) { s.Nodes[2].Parent = at(6) },
		func(s *api.Snap) { s.Nodes[0].Id = stamp(1, 1+1) },
		// Below itself.
		func(s *api.Snap) { s.Nodes[0].Parent = at(1) },
		func(s *api.Snap) { s.Nodes[2].Parent = at(3) },
		func(s *api.Snap) { s.Nodes[0].Parent = stamp(1, 2) },
		func(s *api.Snap) { s.Nodes[0].Parent, s.Nodes[2].Parent = at(3), stamp(1, 2) },
	} {
		s := small()
		change(&s)
		if x, e := Of(s); x != nil || e != api.ErrArg {
			t.Errorf("the change %d: %v %d", k, x, e)
		}
	}
	// At the base a node may be.
	s := small()
	s.Nodes = append(s.Nodes, node(stamp(5, 3), at(3), "e", ""))
	opens(t, s)
	// A parent with a greater number, too.
	s.Nodes[0].Parent, s.Nodes[3].Parent = at(3), api.Stamp{}
	sameLook(t, lookAt(opens(t, s)), look{nodes: nodesOf(s.Nodes, s.Ops), fixed: s.Nodes, ops: s.Ops, base: s.Base})
}

func TestOfOfFieldsThatMayNotBe(t *testing.T) {
	for _, id := range slices.Concat(noStamps, tops) {
		opensNot(t, api.Snap{Nodes: []api.Node{node(id, api.Stamp{}, "a", "")}, Base: stamp(api.MaxTime, 6)}, api.ErrArg)
	}
	for _, id := range []api.Stamp{at(1), stamp(1, 6), stamp(api.MaxTime, 1), stamp(api.MaxTime, 6)} {
		opens(t, api.Snap{Nodes: []api.Node{node(id, api.Stamp{}, "a", "")}, Base: stamp(api.MaxTime, 6)})
	}
	for k := range small().Nodes {
		for _, s := range noNames {
			c := small()
			c.Nodes[k].Name = s
			opensNot(t, c, api.ErrArg)
		}
		for _, p := range noStamps {
			c := small()
			c.Nodes[k].Parent = p
			opensNot(t, c, api.ErrArg)
		}
		for _, n := range []int{65, 66, 1<<8 + 1} {
			c := small()
			c.Nodes[k].Value = strings.Repeat("v", n)
			opensNot(t, c, api.ErrArg)
		}
		for _, p := range tops {
			c := small()
			c.Nodes[k].Parent, c.Nodes[k].Name, c.Nodes[k].Value = p, strings.Repeat("é", 32), strings.Repeat("\xff", 64)
			x := opens(t, c)
			if l := x.Fixed(); !slices.Equal(l, c.Nodes) {
				t.Error(l)
			}
		}
	}
}

func TestOfOfABaseThatMayNotBe(t *testing.T) {
	for _, s := range append(slices.Clone(noStamps), theTrash) {
		opensNot(t, api.Snap{Base: s}, api.ErrArg)
		opensNot(t, api.Snap{Base: s, Ops: []api.Op{createOp(at(9), api.Stamp{}, "a")}}, api.ErrArg)
	}
	for _, s := range []api.Stamp{{}, at(1), stamp(1, 6), stamp(api.MaxTime, 1), stamp(api.MaxTime, 6)} {
		sameLook(t, lookAt(opens(t, api.Snap{Base: s})), look{base: s})
	}
}

// row are so many nodes, each below the one ahead.
func row(n int) []api.Node {
	var l []api.Node
	for k := range n {
		up := api.Stamp{}
		if k > 0 {
			up = at(k)
		}
		l = append(l, node(at(k+1), up, "a", ""))
	}
	return l
}

func TestOfOfManyNodes(t *testing.T) {
	base := at(1000)
	sameLook(t, lookAt(opens(t, api.Snap{Nodes: row(512), Base: base})), look{nodes: row(512), fixed: row(512), base: base})
	opensNot(t, api.Snap{Nodes: row(513), Base: base}, api.ErrArg)
	opensNot(t, api.Snap{Nodes: row(2000), Base: at(5000)}, api.ErrArg)
	// The longest ring there may be, and one off which others hang.
	for _, last := range []int{512, 511, 256, 2, 1} {
		l := row(512)
		l[0].Parent = at(last)
		opensNot(t, api.Snap{Nodes: l, Base: base}, api.ErrArg)
	}
	// The ring is at the far end.
	l := row(512)
	l[509].Parent = at(512)
	opensNot(t, api.Snap{Nodes: l, Base: base}, api.ErrArg)
	// Turned about: each below the one behind.
	l = row(512)
	for k := range l {
		l[k].Parent = at(k + 2)
	}
	l[511].Parent = theTrash
	x := opens(t, api.Snap{Nodes: l, Base: base})
	// From one end to the other, no node may stand below itself.
	applies(t, x, moveOp(at(1001), at(512), at(1)), moveOp(at(1002), at(511), at(1)), moveOp(at(1003), at(2), at(1)))
	shows(t, x, l...)
	applies(t, x, moveOp(at(1004), at(1), at(512)), moveOp(at(1005), at(2), at(1)))
	l[0].Parent, l[1].Parent = at(512), at(1)
	shows(t, x, l...)
}

func TestOfOfManyOps(t *testing.T) {
	var sets, creates []api.Op
	for k := range 513 {
		sets = append(sets, setOp(at(2001+k), at(1), "v"))
		creates = append(creates, createOp(at(2001+k), api.Stamp{}, "a"))
	}
	base := at(1000)
	one := row(1)
	for _, l := range [][]api.Op{sets, creates} {
		opens(t, api.Snap{Ops: l[:512], Base: base})
		opensNot(t, api.Snap{Ops: l, Base: base}, api.ErrFull)
	}
	opens(t, api.Snap{Nodes: one, Ops: sets[:512], Base: base})
	opensNot(t, api.Snap{Nodes: one, Ops: creates[:512], Base: base}, api.ErrFull)
	opens(t, api.Snap{Nodes: one, Ops: creates[:511], Base: base})
	opens(t, api.Snap{Nodes: row(512), Ops: sets[:512], Base: base})
	opensNot(t, api.Snap{Nodes: row(512), Ops: creates[:1], Base: base}, api.ErrFull)
	opens(t, api.Snap{Nodes: row(511), Ops: creates[:1], Base: base})
	opensNot(t, api.Snap{Nodes: row(511), Ops: creates[:2], Base: base}, api.ErrFull)
	opensNot(t, api.Snap{Nodes: row(512), Ops: append(slices.Clone(sets[:511]), creates[511]), Base: base}, api.ErrFull)
	// Nodes that may not be, or a base, are told ahead of it.
	opensNot(t, api.Snap{Nodes: row(513), Ops: creates, Base: base}, api.ErrArg)
	opensNot(t, api.Snap{Ops: creates, Base: theTrash}, api.ErrArg)
	opensNot(t, api.Snap{Nodes: []api.Node{node(at(1), api.Stamp{}, "", "")}, Ops: creates, Base: base}, api.ErrArg)
}

func TestOfOfOpsThatMayNotBe(t *testing.T) {
	bad := []api.Op{
		{}, {Kind: 6, At: at(9), Node: at(1)}, createOp(at(9), stamp(0, 2), "a"), setOp(at(9), at(1), strings.Repeat("v", 65)), renameOp(at(9), at(1), ""), trashOp(stamp(9, 7), at(1)),
		// Not behind the base.
		trashOp(stamp(5, 3), at(1)), trashOp(stamp(5, 2), at(1)), trashOp(at(1), at(1)), createOp(at(1), api.Stamp{}, "a"),
		// With the stamp of one ahead: the same, and another one.
		small().Ops[0], small().Ops[1], trashOp(at(6), at(1)), trashOp(at(7), at(1)),
	}
	for _, o := range bad {
		for place := range 3 {
			s := small()
			s.Ops = slices.Insert(s.Ops, place, o)
			opensNot(t, s, api.ErrArg)
		}
	}
	// The one with the stamp of one ahead is told, though there is no room for it either; and so is what may not be.
	s := api.Snap{Base: at(1)}
	for k := range 512 {
		s.Ops = append(s.Ops, setOp(at(2+k), at(1), "v"))
	}
	opens(t, s)
	for _, o := range []api.Op{s.Ops[0], s.Ops[511], trashOp(at(100), at(1)), {}, trashOp(at(1), at(1))} {
		opensNot(t, api.Snap{Base: s.Base, Ops: append(slices.Clone(s.Ops), o)}, api.ErrArg)
	}
	opensNot(t, api.Snap{Base: s.Base, Ops: append(slices.Clone(s.Ops), trashOp(at(5000), at(1)))}, api.ErrFull)
	// They are put in one behind the other: the first one that is refused tells the error.
	opensNot(t, api.Snap{Base: s.Base, Ops: append(slices.Clone(s.Ops), trashOp(at(5000), at(1)), api.Op{})}, api.ErrFull)
	opensNot(t, api.Snap{Base: s.Base, Ops: append(append([]api.Op{{}}, s.Ops...), trashOp(at(5000), at(1)))}, api.ErrArg)
}

func TestOfOfOpsInAnyOrder(t *testing.T) {
	r := rand.New(rand.NewSource(13))
	for range 30 {
		l := drawAll(r, 20)
		want := look{nodes: nodesOf(nil, l), ops: l}
		sameLook(t, lookAt(opens(t, api.Snap{Ops: turned(r, l)})), want)
		back := slices.Clone(l)
		slices.Reverse(back)
		sameLook(t, lookAt(opens(t, api.Snap{Ops: back})), want)
	}
}

func TestOfOfWhatAnotherOneIs(t *testing.T) {
	r := rand.New(rand.NewSource(14))
	for range 60 {
		l := drawAll(r, 20)
		x := of(t, turned(r, l)...)
		x.Compact(stamp(1+r.Intn(22), 1+r.Intn(6)))
		y := opens(t, snapOf(x))
		sameLook(t, lookAt(y), lookAt(x))
		// They go on alike, each on its own.
		o := draw(r, stamp(23, 1), []api.Stamp{l[0].At, l[1].At, l[2].At})
		applies(t, y, o)
		if len(x.Ops()) == len(y.Ops()) {
			t.Error("what came to one came to the other")
		}
		applies(t, x, o)
		if x.Compact(stamp(22, 3)) != y.Compact(stamp(22, 3)) {
			t.Error("Compact")
		}
		sameLook(t, lookAt(y), lookAt(x))
	}
}

// mayBeNodes tells whether nodes may be those for good, by another way: each is taken away once its parent was.
func mayBeNodes(l []api.Node, base api.Stamp) bool {
	left := slices.Clone(l)
	gone := slices.Clone(tops)
	for i, n := range l {
		if i > 0 && rank(l[i-1].Id) >= rank(n.Id) || rank(n.Id) > rank(base) {
			return false
		}
	}
	for range l {
		left = slices.DeleteFunc(left, func(n api.Node) bool {
			if !slices.Contains(gone, n.Parent) {
				return false
			}
			gone = append(gone, n.Id)
			return true
		})
	}
	return len(left) == 0
}

func TestOfOfDrawnNodes(t *testing.T) {
	r := rand.New(rand.NewSource(15))
	yes := 0
	for range 20000 {
		var l []api.Node
		n := r.Intn(7)
		for k := range n {
			up := at(1 + r.Intn(n))
			if r.Intn(3) == 0 {
				up = tops[r.Intn(2)]
			}
			l = append(l, node(at(1+k), up, "a", ""))
		}
		if r.Intn(10) == 0 {
			r.Shuffle(n, func(i, j int) { l[i], l[j] = l[j], l[i] })
		}
		s := api.Snap{Nodes: l, Base: at(max(1, n-r.Intn(2)*r.Intn(2)))}
		if !mayBeNodes(l, s.Base) {
			opensNot(t, s, api.ErrArg)
			continue
		}
		yes++
		x := opens(t, s)
		leadUp(t, x.Nodes())
		sameLook(t, lookAt(x), look{nodes: l, fixed: l, base: s.Base})
	}
	if yes < 2000 || yes > 18000 {
		t.Error(yes)
	}
}

// Tr4.

func TestAnyOrderLeadsToTheSame(t *testing.T) {
	r := rand.New(rand.NewSource(16))
	deep := 0
	for range 150 {
		l := drawAll(r, 4+r.Intn(30))
		want := look{nodes: nodesOf(nil, l), ops: l}
		for _, n := range want.nodes {
			if !slices.Contains(tops, n.Parent) {
				deep++
			}
		}
		back := slices.Clone(l)
		slices.Reverse(back)
		for _, order := range [][]api.Op{l, back, turned(r, l), turned(r, l), append(slices.Clone(l[len(l)/2:]), l[:len(l)/2]...)} {
			x := of(t, order...)
			sameLook(t, lookAt(x), want)
			leadUp(t, x.Nodes())
			for _, o := range turned(r, l) {
				if e := x.Apply(o); e != api.OK {
					t.Fatal(o, e)
				}
			}
			sameLook(t, lookAt(x), want)
		}
	}
	if deep < 500 {
		t.Error("too few that stand below others:", deep)
	}
}

func TestAllOrdersOfAFew(t *testing.T) {
	a, b, c := at(1), at(2), at(3)
	l := []api.Op{createOp(a, api.Stamp{}, "a"), createOp(b, a, "b"), createOp(c, b, "c"), moveOp(at(4), b, api.Stamp{}), moveOp(at(5), a, c), moveOp(at(6), c, a), trashOp(at(7), b)}
	want := look{nodes: nodesOf(nil, l), ops: l}
	var try func(done, rest []api.Op)
	count := 0
	try = func(done, rest []api.Op) {
		if len(rest) == 0 {
			count++
			x := New()
			for _, o := range done {
				x.Apply(o)
			}
			sameLook(t, lookAt(x), want)
		}
		for i := range rest {
			try(append(slices.Clone(done), rest[i]), slices.Concat(rest[:i], rest[i+1:]))
		}
	}
	try(nil, l)
	if count != 5040 {
		t.Error(count)
	}
}

func TestTheSameAsEachComes(t *testing.T) {
	// Nodes are asked for behind each one, and behind several.
	r := rand.New(rand.NewSource(17))
	for range 60 {
		x := New()
		var came []api.Op
		for _, o := range turned(r, drawAll(r, 16)) {
			applies(t, x, o)
			came = append(came, o)
			if r.Intn(3) > 0 {
				continue
			}
			want := nodesOf(nil, came)
			if l := x.Nodes(); !slices.Equal(l, want) {
				t.Fatalf("Nodes: %v, not %v", l, want)
			}
			leadUp(t, want)
			id := stamp(1+r.Intn(16), 1+r.Intn(2))
			i := slices.IndexFunc(want, func(n api.Node) bool { return n.Id == id })
			n, ok := x.Get(id)
			if ok != (i >= 0) || ok && n != want[i] {
				t.Fatalf("Get %v: %v %t", id, n, ok)
			}
		}
	}
}

func TestCompactAnywhereLeadsToTheSame(t *testing.T) {
	r := rand.New(rand.NewSource(18))
	for range 40 {
		most := 4 + r.Intn(16)
		l := drawAll(r, most)
		want := nodesOf(nil, l)
		for k := range most * 6 {
			upto := stamp(1+k/6, 1+k%6)
			cut, _ := slices.BinarySearchFunc(l, upto, func(o api.Op, s api.Stamp) int { return rank(o.At) - rank(s) - 1 })
			// All ahead of it, in any order; and some of those behind it, then the others.
			x := New()
			later := turned(r, l[cut:])
			half := len(later) / 2
			for _, o := range turned(r, slices.Concat(l[:cut], later[:half])) {
				x.Apply(o)
			}
			if r.Intn(2) == 0 {
				x.Nodes()
			}
			if n := x.Compact(upto); n != cut {
				t.Fatalf("Compact %v: %d, not %d", upto, n, cut)
			}
			for _, o := range later[half:] {
				if e := x.Apply(o); e != api.OK {
					t.Fatal(o, e)
				}
			}
			sameLook(t, lookAt(x), look{nodes: want, fixed: nodesOf(nil, l[:cut]), ops: l[cut:], base: upto})
			leadUp(t, x.Fixed())
		}
	}
}

func TestCompactManyTimesLeadsToTheSame(t *testing.T) {
	r := rand.New(rand.NewSource(19))
	for range 100 {
		l := drawAll(r, 30)
		x := New()
		base := api.Stamp{}
		for i, o := range l {
			applies(t, x, o)
			if r.Intn(4) == 0 {
				base = l[r.Intn(i+1)].At
				if rank(base) > rank(x.Base()) {
					x.Compact(base)
				}
			}
		}
		if got, want := x.Nodes(), nodesOf(nil, l); !slices.Equal(got, want) {
			t.Fatalf("%v, not %v", got, want)
		}
		if got, want := x.Fixed(), nodesOf(nil, l[:len(l)-len(x.Ops())]); !slices.Equal(got, want) {
			t.Fatalf("%v, not %v", got, want)
		}
	}
}

func TestAFullTreeInAnyOrder(t *testing.T) {
	r := rand.New(rand.NewSource(20))
	var l []api.Op
	for k := range 512 {
		if k < 256 {
			up := api.Stamp{}
			if k > 0 {
				up = at(k)
			}
			l = append(l, createOp(at(k+1), up, "a"))
			continue
		}
		l = append(l, moveOp(at(k+1), at(1+r.Intn(256)), at(1+r.Intn(256))))
	}
	want := look{nodes: nodesOf(nil, l), ops: l}
	for range 3 {
		x := of(t, turned(r, l)...)
		sameLook(t, lookAt(x), want)
		leadUp(t, x.Nodes())
		sameLook(t, lookAt(opens(t, snapOf(x))), want)
	}
}

// R1, R3 and R4.

func isNone(t *testing.T, x *Tree) {
	t.Helper()
	for range 2 {
		if e := x.Apply(createOp(at(1), api.Stamp{}, "a")); e != api.ErrArg {
			t.Error("Apply:", e)
		}
		if e := x.Apply(api.Op{}); e != api.ErrArg {
			t.Error("Apply:", e)
		}
		if n := x.Compact(at(1)); n != 0 {
			t.Error("Compact:", n)
		}
		if l := x.Ops(); len(l) != 0 {
			t.Error("Ops:", l)
		}
		if s := x.Base(); s != (api.Stamp{}) {
			t.Error("Base:", s)
		}
		if l := x.Nodes(); len(l) != 0 {
			t.Error("Nodes:", l)
		}
		if l := x.Fixed(); len(l) != 0 {
			t.Error("Fixed:", l)
		}
		if n, ok := x.Get(at(1)); n != (api.Node{}) || ok {
			t.Error("Get:", n, ok)
		}
	}
}

func TestATreeThatWasNotGiven(t *testing.T) {
	isNone(t, nil)
	isNone(t, &Tree{})
	isNone(t, new(Tree))
	x := opens(t, small())
	applies(t, x, createOp(stamp(5, 6), api.Stamp{}, "z"))
	was := lookAt(x)
	y := *x
	isNone(t, &y)
	sameLook(t, lookAt(x), was)
	z := *New()
	isNone(t, &z)
}

func TestWildArguments(t *testing.T) {
	for _, time := range wild {
		for _, who := range wild {
			s := stamp(time, who)
			x := opens(t, small())
			was := lookAt(x)
			x.Get(s)
			for kind := range 7 {
				for _, o := range []api.Op{
					{Kind: kind, At: s}, {Kind: kind, At: at(9), Node: s}, {Kind: kind, At: at(9), Node: at(1), Parent: s}, {Kind: kind, At: s, Node: s, Parent: s, Name: "a"},
					{Kind: kind, At: s, Node: at(1), Value: "v"}, {Kind: kind, At: s, Node: s, Parent: s, Name: "\xff", Value: "\xff"},
				} {
					y := opens(t, small())
					if e := y.Apply(o); (e == api.OK) != (Check(o) == api.OK && rank(o.At) > rank(small().Base)) {
						t.Errorf("Apply %v: %d", o, e)
					}
					leadUp(t, y.Nodes())
					Of(api.Snap{Ops: []api.Op{o}, Base: s})
				}
			}
			x.Compact(s)
			if l := lookAt(x).nodes; !slices.Equal(l, was.nodes) {
				t.Errorf("Compact %v: %v", s, l)
			}
			Of(api.Snap{Nodes: []api.Node{{Id: s, Parent: s, Name: "a"}}, Base: s})
			Of(api.Snap{Nodes: []api.Node{{Id: at(1), Parent: s, Name: "a"}, {Id: at(2), Parent: s, Name: "b"}}, Base: at(2)})
		}
	}
}

func TestListsStandAsTheyWere(t *testing.T) {
	s := small()
	slices.Reverse(s.Ops)
	nodes, ops := slices.Clone(s.Nodes), slices.Clone(s.Ops)
	// Room behind their ends, with what would be refused, were it read.
	behind := api.Node{Id: at(9), Name: ".."}
	s.Nodes = append(s.Nodes, behind)[:len(nodes)]
	s.Ops = append(s.Ops, api.Op{Kind: 9})[:len(ops)]
	x := opens(t, s)
	applies(t, x, trashOp(stamp(5, 5), at(1)), createOp(at(20), api.Stamp{}, "z"))
	x.Compact(at(6))
	x.Nodes()
	if !slices.Equal(s.Nodes, nodes) || !slices.Equal(s.Ops, ops) {
		t.Error(s)
	}
	if b := s.Nodes[:len(nodes)+1][len(nodes)]; b != behind {
		t.Error(b)
	}
	if b := s.Ops[:len(ops)+1][len(ops)]; b != (api.Op{Kind: 9}) {
		t.Error(b)
	}
	// Nor are they kept: written over, they change nothing of the tree.
	was := lookAt(x)
	clear(s.Nodes)
	clear(s.Ops)
	sameLook(t, lookAt(x), was)
}

func TestTheSameCallsTellTheSame(t *testing.T) {
	run := func() look {
		r := rand.New(rand.NewSource(21))
		x := New()
		for _, o := range turned(r, drawAll(r, 40)) {
			x.Apply(o)
		}
		x.Compact(stamp(17, 1))
		return lookAt(x)
	}
	want := run()
	for range 20 {
		sameLook(t, run(), want)
	}
}
