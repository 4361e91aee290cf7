package snap

import (
	"encoding/binary"
	"fmt"
	"math"
	"math/rand"
	"slices"
	"strings"
	"testing"

	"samphire/api"
	"samphire/tree"
)

// wild are numbers at all edges, of any kind.
var wild = []int{math.MinInt, -1 << 40, -7, -2, -1, 0, 1, 2, 5, 6, 7, 255, 256, 1<<32 + 1, api.MaxTime, api.MaxTime + 1, 1<<40 + 1, 1 << 48, math.MaxInt}

// tops are the parents that are no nodes: the root, and the trash.
var tops = []api.Stamp{{}, {Time: 0, Who: 1}}

// noStamps are stamps that have bytes, but are neither one of an operation, nor the root, nor the trash.
var noStamps = []api.Stamp{
	{Time: 0, Who: 2}, {Time: 0, Who: 6}, {Time: 0, Who: 7}, {Time: 0, Who: 255}, {Time: 1, Who: 0}, {Time: 1, Who: 7}, {Time: 1, Who: 255},
	{Time: api.MaxTime, Who: 7}, {Time: api.MaxTime, Who: 0},
}

// noBytes are stamps that have no bytes.
var noBytes = []api.Stamp{
	{Time: -1, Who: 1}, {Time: -1, Who: 0}, {Time: 0, Who: -1}, {Time: 1, Who: -1}, {Time: 1, Who: 256}, {Time: 1, Who: 257}, {Time: 1 << 40, Who: 1}, {Time: 1 << 40, Who: 0},
	{Time: 1<<40 + 1, Who: 1}, {Time: 1<<48 + 1, Who: 1}, {Time: 0, Who: 1<<32 + 1}, {Time: math.MinInt, Who: 1}, {Time: math.MaxInt, Who: 1}, {Time: 1, Who: math.MinInt}, {Time: 1, Who: math.MaxInt},
}

// noNames are texts that are no names.
var noNames = []string{"", ".", "..", " a", "a ", "a/b", "a\x00", "a\n", "a\x7f", "a\xff", strings.Repeat("a", api.MaxName+1), strings.Repeat("a", 1<<16-1)}

// names are names: among them those with the most bytes.
var names = []string{"a", "...", "a b", "é", "\xef\xbf\xbd", strings.Repeat("a", api.MaxName), strings.Repeat("\U0001f333", api.MaxName)}

var theTrash = api.Stamp{Time: 0, Who: 1}

func stamp(time, who int) api.Stamp { return api.Stamp{Time: time, Who: who} }

// at is a stamp of the client 1.
func at(time int) api.Stamp { return stamp(time, 1) }

func createOp(id, parent api.Stamp, name string) api.Op {
	return api.Op{Kind: api.OpCreate, At: id, Node: id, Parent: parent, Name: name}
}

func moveOp(when, id, parent api.Stamp) api.Op {
	return api.Op{Kind: api.OpMove, At: when, Node: id, Parent: parent}
}

func renameOp(when, id api.Stamp, name string) api.Op {
	return api.Op{Kind: api.OpRename, At: when, Node: id, Name: name}
}

func setOp(when, id api.Stamp, value string) api.Op {
	return api.Op{Kind: api.OpSet, At: when, Node: id, Value: value}
}

func trashOp(when, id api.Stamp) api.Op {
	return api.Op{Kind: api.OpTrash, At: when, Node: id}
}

func node(id, parent api.Stamp, name, value string) api.Node {
	return api.Node{Id: id, Parent: parent, Name: name, Value: value}
}

// The bytes of parts, of operations and of trees, made by another way: of what may not be, too.

func numBytes(n int) string { return string(binary.BigEndian.AppendUint64(nil, uint64(n))[2:]) }

func stampBytes(s api.Stamp) string { return numBytes(s.Time) + string([]byte{byte(s.Who)}) }

func textBytes(s string) string {
	return string(binary.BigEndian.AppendUint16(nil, uint16(len(s)))) + s
}

func opBytes(o api.Op) string {
	return string([]byte{byte(o.Kind)}) + stampBytes(o.At) + stampBytes(o.Node) + stampBytes(o.Parent) + textBytes(o.Name) + textBytes(o.Value)
}

func nodeBytes(n api.Node) string {
	return stampBytes(n.Id) + stampBytes(n.Parent) + textBytes(n.Name) + textBytes(n.Value)
}

// countedBytes are a tree's bytes, but with numbers of nodes and of operations that need not be theirs.
func countedBytes(s api.Snap, nodes, ops int) string {
	var b strings.Builder
	b.WriteString(stampBytes(s.Base) + numBytes(nodes))
	for _, n := range s.Nodes {
		b.WriteString(nodeBytes(n))
	}
	b.WriteString(numBytes(ops))
	for _, o := range s.Ops {
		b.WriteString(opBytes(o))
	}
	return b.String()
}

func snapBytes(s api.Snap) string { return countedBytes(s, len(s.Nodes), len(s.Ops)) }

// The other way to read them: it gives up at what is not there.

type reader struct {
	left string
	ok   bool
}

func (r *reader) cut(n int) string {
	if n > len(r.left) {
		r.left, r.ok = "", false
		return strings.Repeat("\x00", min(n, 8))
	}
	s := r.left[:n]
	r.left = r.left[n:]
	return s
}

func (r *reader) num() int {
	n := binary.BigEndian.Uint64([]byte("\x00\x00" + r.cut(6)))
	r.ok = r.ok && n>>40 == 0
	return int(n)
}

func (r *reader) stamp() api.Stamp {
	time := r.num()
	return api.Stamp{Time: time, Who: int(r.cut(1)[0])}
}

func (r *reader) text() string { return r.cut(int(binary.BigEndian.Uint16([]byte(r.cut(2))))) }

func (r *reader) op() api.Op {
	return api.Op{Kind: int(r.cut(1)[0]), At: r.stamp(), Node: r.stamp(), Parent: r.stamp(), Name: r.text(), Value: r.text()}
}

func (r *reader) node() api.Node {
	return api.Node{Id: r.stamp(), Parent: r.stamp(), Name: r.text(), Value: r.text()}
}

func (r *reader) snap() api.Snap {
	s := api.Snap{Base: r.stamp()}
	for n := r.num(); n > 0 && r.ok; n-- {
		s.Nodes = append(s.Nodes, r.node())
	}
	for n := r.num(); n > 0 && r.ok; n-- {
		s.Ops = append(s.Ops, r.op())
	}
	return s
}

// whole tells whether all was there, and nothing more.
func (r *reader) whole() bool { return r.ok && r.left == "" }

// hasTree tells whether bytes are those of a tree that may be, and gives it, by that other way.
func hasTree(b string) (api.Snap, bool) {
	r := &reader{left: b, ok: true}
	s := r.snap()
	if !r.whole() || !mayBe(s) || len(b) > 1<<16 {
		return api.Snap{}, false
	}
	return s, true
}

// hasOp tells the same of an operation.
func hasOp(b string) (api.Op, bool) {
	r := &reader{left: b, ok: true}
	o := r.op()
	if !r.whole() || tree.Check(o) != api.OK {
		return api.Op{}, false
	}
	return o, true
}

// rank is a number that rises as stamps of operations do.
func rank(s api.Stamp) int { return s.Time<<3 + s.Who }

// mayBe tells whether layer 11 opens a tree, and its operations rise.
func mayBe(s api.Snap) bool {
	_, e := tree.Of(s)
	ranks := []int{}
	for _, o := range s.Ops {
		ranks = append(ranks, rank(o.At))
	}
	return e == api.OK && slices.IsSorted(ranks) && len(slices.Compact(slices.Clone(ranks))) == len(ranks)
}

func sameSnap(a, b api.Snap) bool {
	return slices.Equal(a.Nodes, b.Nodes) && slices.Equal(a.Ops, b.Ops) && a.Base == b.Base
}

// isEmpty tells whether a tree is the one of an error.
func isEmpty(s api.Snap) bool {
	return len(s.Nodes) == 0 && len(s.Ops) == 0 && s.Base == api.Stamp{}
}

// short is a thing as a test tells it: some may be very long.
func short(x any) string { return fmt.Sprintf("%.300s", fmt.Sprint(x)) }

// putsOp holds that an operation has these bytes, and is taken of them.
func putsOp(t *testing.T, o api.Op, want string) {
	t.Helper()
	if b, e := PutOp(o); b != want || e != api.OK {
		t.Errorf("PutOp %v: %x %d, not %x", o, b, e, want)
	}
	if x, e := TakeOp(want); x != o || e != api.OK {
		t.Errorf("TakeOp %x: %v %d, not %v", want, x, e, o)
	}
}

// putsNoOp holds that an operation is refused.
func putsNoOp(t *testing.T, o api.Op) {
	t.Helper()
	if b, e := PutOp(o); b != "" || e != api.ErrArg {
		t.Errorf("PutOp %s: %x %d, not ErrArg", short(o), b, e)
	}
}

// takesNoOp holds that bytes are those of no operation.
func takesNoOp(t *testing.T, b string) {
	t.Helper()
	if o, e := TakeOp(b); o != (api.Op{}) || e != api.ErrForm {
		t.Errorf("TakeOp %.100x: %v %d, not ErrForm", b, o, e)
	}
}

// puts holds that a tree has these bytes, and is taken of them.
func puts(t *testing.T, s api.Snap, want string) {
	t.Helper()
	if b, e := Put(s); b != want || e != api.OK {
		t.Errorf("Put %s: %d bytes %.100x %d, not %d bytes %.100x", short(s), len(b), b, e, len(want), want)
	}
	if x, e := Take(want); !sameSnap(x, s) || e != api.OK {
		t.Errorf("Take %.100x: %s %d, not %s", want, short(x), e, short(s))
	}
}

// putsNot holds that a tree is refused.
func putsNot(t *testing.T, s api.Snap) {
	t.Helper()
	if b, e := Put(s); b != "" || e != api.ErrArg {
		t.Errorf("Put %s: %d bytes %.100x %d, not ErrArg", short(s), len(b), b, e)
	}
}

// takesNot holds that bytes are those of no tree.
func takesNot(t *testing.T, b string) {
	t.Helper()
	if s, e := Take(b); !isEmpty(s) || e != api.ErrForm {
		t.Errorf("Take of %d bytes %.100x: %s %d, not ErrForm", len(b), b, short(s), e)
	}
}

// isNone holds that a tree that has bytes is refused, and so are these.
func isNone(t *testing.T, s api.Snap) {
	t.Helper()
	putsNot(t, s)
	takesNot(t, snapBytes(s))
}

// kinds are operations that may be, of each kind.
func kinds() []api.Op {
	return []api.Op{
		createOp(at(9), at(3), "a"), moveOp(at(9), at(2), at(3)), renameOp(at(9), at(2), "a"), setOp(at(9), at(2), "v"), trashOp(at(9), at(2)),
	}
}

// Sn1.

func TestOperationsByteForByte(t *testing.T) {
	for _, c := range []struct {
		o    api.Op
		want string
	}{
		{
			createOp(stamp(0x0102030405, 6), stamp(258, 2), "ab"),
			"\x01" + "\x00\x01\x02\x03\x04\x05\x06" + "\x00\x01\x02\x03\x04\x05\x06" + "\x00\x00\x00\x00\x01\x02\x02" + "\x00\x02ab" + "\x00\x00",
		},
		{
			createOp(at(1), api.Stamp{}, "é"),
			"\x01" + "\x00\x00\x00\x00\x00\x01\x01" + "\x00\x00\x00\x00\x00\x01\x01" + "\x00\x00\x00\x00\x00\x00\x00" + "\x00\x02\xc3\xa9" + "\x00\x00",
		},
		{
			createOp(at(1), theTrash, "a"),
			"\x01" + "\x00\x00\x00\x00\x00\x01\x01" + "\x00\x00\x00\x00\x00\x01\x01" + "\x00\x00\x00\x00\x00\x00\x01" + "\x00\x01a" + "\x00\x00",
		},
		{
			moveOp(stamp(api.MaxTime, 3), at(256), stamp(1<<32, 5)),
			"\x02" + "\x00\xff\xff\xff\xff\xff\x03" + "\x00\x00\x00\x00\x01\x00\x01" + "\x00\x01\x00\x00\x00\x00\x05" + "\x00\x00" + "\x00\x00",
		},
		{
			renameOp(at(9), stamp(8, 2), "x y"),
			"\x03" + "\x00\x00\x00\x00\x00\x09\x01" + "\x00\x00\x00\x00\x00\x08\x02" + "\x00\x00\x00\x00\x00\x00\x00" + "\x00\x03x y" + "\x00\x00",
		},
		{
			setOp(at(9), stamp(8, 2), "\x00\xff"),
			"\x04" + "\x00\x00\x00\x00\x00\x09\x01" + "\x00\x00\x00\x00\x00\x08\x02" + "\x00\x00\x00\x00\x00\x00\x00" + "\x00\x00" + "\x00\x02\x00\xff",
		},
		{
			setOp(at(9), stamp(8, 2), ""),
			"\x04" + "\x00\x00\x00\x00\x00\x09\x01" + "\x00\x00\x00\x00\x00\x08\x02" + "\x00\x00\x00\x00\x00\x00\x00" + "\x00\x00" + "\x00\x00",
		},
		{
			trashOp(at(9), stamp(8, 2)),
			"\x05" + "\x00\x00\x00\x00\x00\x09\x01" + "\x00\x00\x00\x00\x00\x08\x02" + "\x00\x00\x00\x00\x00\x00\x00" + "\x00\x00" + "\x00\x00",
		},
	} {
		putsOp(t, c.o, c.want)
		putsOp(t, c.o, opBytes(c.o))
	}
}

func TestOperationsAtTheEdges(t *testing.T) {
	for _, s := range []api.Stamp{at(1), stamp(1, 6), stamp(255, 1), stamp(1<<39, 2), at(api.MaxTime), stamp(api.MaxTime, 6)} {
		for _, o := range []api.Op{createOp(s, s, "a"), moveOp(s, at(1), theTrash), moveOp(at(1), s, s), renameOp(s, s, "a"), setOp(at(3), s, "v"), trashOp(s, at(2))} {
			putsOp(t, o, opBytes(o))
		}
	}
	for _, s := range names {
		putsOp(t, createOp(at(1), api.Stamp{}, s), opBytes(createOp(at(1), api.Stamp{}, s)))
		putsOp(t, renameOp(at(1), at(2), s), opBytes(renameOp(at(1), at(2), s)))
	}
	for _, s := range []string{"", "v", "\x00", "\xff", strings.Repeat("v", 64), strings.Repeat("\x00", 64), strings.Repeat("é", 32)} {
		putsOp(t, setOp(at(1), at(2), s), opBytes(setOp(at(1), at(2), s)))
	}
	// What is no name may be a value.
	for _, s := range noNames {
		if len(s) <= 64 {
			putsOp(t, setOp(at(1), at(2), s), opBytes(setOp(at(1), at(2), s)))
		}
	}
}

// noOps are operations that have bytes, but may not be.
func noOps() []api.Op {
	l := []api.Op{{}, {Kind: api.OpCreate, At: at(9), Node: at(9)}, {Kind: api.OpRename, At: at(9), Node: at(2)}}
	for _, o := range kinds() {
		for _, k := range []int{0, 6, 7, 255} {
			other := o
			other.Kind = k
			l = append(l, other)
		}
		for _, s := range slices.Concat(noStamps, tops) {
			late, of := o, o
			late.At, of.Node = s, s
			l = append(l, late, of)
			if o.Kind == api.OpCreate {
				late.Node = s
				l = append(l, late)
			}
		}
		for _, s := range noStamps {
			below := o
			below.Parent = s
			l = append(l, below)
		}
		for _, s := range noNames[1:] {
			named := o
			named.Name = s
			l = append(l, named)
		}
		for _, n := range []int{65, 66, 256, 1<<16 - 1} {
			long := o
			long.Value = strings.Repeat("v", n)
			l = append(l, long)
		}
	}
	other := createOp(at(9), at(3), "a")
	for _, s := range []api.Stamp{at(8), at(10), stamp(9, 2)} {
		other.Node = s
		l = append(l, other)
	}
	return append(l, filledOps()...)
}

// filledOps are operations with a field that must be empty.
func filledOps() []api.Op {
	var l []api.Op
	for _, o := range kinds() {
		below, named, valued := o, o, o
		below.Parent, named.Name, valued.Value = at(3), "a", "v"
		if o.Kind > api.OpMove {
			l = append(l, below)
			below.Parent = theTrash
			l = append(l, below)
		}
		if o.Kind != api.OpCreate && o.Kind != api.OpRename {
			l = append(l, named)
		}
		if o.Kind != api.OpSet {
			l = append(l, valued)
			valued.Value = "\x00"
			l = append(l, valued)
		}
	}
	return l
}

func TestOperationsThatMayNotBe(t *testing.T) {
	for _, o := range noOps() {
		putsNoOp(t, o)
		takesNoOp(t, opBytes(o))
	}
}

func TestOperationsWithoutBytes(t *testing.T) {
	for _, o := range kinds() {
		for _, s := range noBytes {
			late, of, below := o, o, o
			late.At, of.Node, below.Parent = s, s, s
			putsNoOp(t, late)
			putsNoOp(t, of)
			putsNoOp(t, below)
			late.Node = s
			putsNoOp(t, late)
		}
		for _, k := range []int{-1, 256 + o.Kind, 1<<32 + o.Kind, -256 + o.Kind, math.MinInt, math.MaxInt} {
			other := o
			other.Kind = k
			putsNoOp(t, other)
		}
		long := o
		long.Name = strings.Repeat("a", 1<<16)
		putsNoOp(t, long)
		long.Name = strings.Repeat("a", 1<<16+1)
		putsNoOp(t, long)
		long = o
		long.Value = strings.Repeat("v", 1<<16)
		putsNoOp(t, long)
	}
}

func TestBeginningsOfOperations(t *testing.T) {
	for _, o := range append(kinds(), createOp(at(1), api.Stamp{}, names[len(names)-1]), setOp(at(1), at(2), strings.Repeat("\x00", 64))) {
		b := opBytes(o)
		for n := range len(b) {
			takesNoOp(t, b[:n])
			takesNoOp(t, b[n+1:])
		}
		for _, more := range []string{"\x00", "\x01", "\x00\x00", "a", b, strings.Repeat("\x00", 1<<16)} {
			takesNoOp(t, b+more)
		}
		takesNoOp(t, "\x00"+b)
	}
}

func TestOperationsWithWrongParts(t *testing.T) {
	b := opBytes(moveOp(at(9), at(2), at(3)))
	// A number above the greatest one.
	for _, place := range []int{1, 8, 15} {
		takesNoOp(t, b[:place]+"\x01"+b[place+1:])
		takesNoOp(t, b[:place]+"\xff"+b[place+1:])
	}
	// Lengths that are not those of what stands there.
	o := opBytes(createOp(at(9), at(3), "ab"))
	for _, l := range []string{"\x00\x00", "\x00\x01", "\x00\x03", "\x00\x04", "\x00\x05", "\x01\x02", "\xff\xff"} {
		takesNoOp(t, o[:22]+l+o[24:])
	}
	v := opBytes(setOp(at(9), at(3), "ab"))
	for _, l := range []string{"\x00\x00", "\x00\x01", "\x00\x03", "\x01\x02", "\xff\xff"} {
		takesNoOp(t, v[:24]+l+v[26:])
	}
}

func TestTurnedBytesOfOperations(t *testing.T) {
	yes := 0
	for _, o := range append(kinds(), createOp(stamp(300, 6), stamp(299, 5), "é"), setOp(at(7), at(2), "")) {
		b := []byte(opBytes(o))
		for i := range b {
			was := b[i]
			for c := range 256 {
				b[i] = byte(c)
				if takenOp(t, string(b)) {
					yes++
				}
			}
			b[i] = was
		}
	}
	if yes < 1000 {
		t.Error("too few are taken:", yes)
	}
}

// takenOp holds that bytes are taken as the other way tells, and tells whether they were.
func takenOp(t *testing.T, b string) bool {
	t.Helper()
	want, may := hasOp(b)
	if !may {
		takesNoOp(t, b)
		return false
	}
	putsOp(t, want, b)
	return true
}

// drawnOp is a drawn operation: mostly one that may be.
func drawnOp(r *rand.Rand) api.Op {
	some := func() api.Stamp {
		switch r.Intn(40) {
		case 0:
			return stamp(wild[r.Intn(len(wild))], wild[r.Intn(len(wild))])
		case 1:
			return tops[r.Intn(2)]
		}
		return stamp(1+r.Intn(1<<r.Intn(40)), 1+r.Intn(6))
	}
	o := api.Op{Kind: 1 + r.Intn(5), At: some(), Node: some()}
	switch o.Kind {
	case api.OpCreate:
		o.Node, o.Parent, o.Name = o.At, some(), names[r.Intn(len(names))]
	case api.OpMove:
		o.Parent = some()
	case api.OpRename:
		o.Name = names[r.Intn(len(names))]
	case api.OpSet:
		o.Value = drawnText(r, 66)
	}
	return o
}

// drawnText are drawn bytes, fewer than so many.
func drawnText(r *rand.Rand, n int) string {
	b := make([]byte, r.Intn(n))
	r.Read(b)
	return string(b)
}

func TestDrawnOperations(t *testing.T) {
	r := rand.New(rand.NewSource(131))
	yes := 0
	for range 20000 {
		o := drawnOp(r)
		if tree.Check(o) != api.OK {
			putsNoOp(t, o)
			continue
		}
		yes++
		b := opBytes(o)
		putsOp(t, o, b)
		turned := []byte(b)
		turned[r.Intn(len(turned))] ^= byte(1 << r.Intn(8))
		takenOp(t, string(turned))
	}
	if yes < 10000 || yes > 19900 {
		t.Error("may be:", yes)
	}
}

// Sn2.

func TestExample(t *testing.T) {
	noughts := func(n int) string { return strings.Repeat("\x00", n) }
	puts(t, api.Snap{}, noughts(19))
	puts(t, api.Snap{Nodes: []api.Node{}, Ops: []api.Op{}}, noughts(19))
	for n := range 64 {
		if n != 19 {
			takesNot(t, noughts(n))
		}
	}
	takesNot(t, noughts(1<<16))
	takesNot(t, noughts(1<<16+1))
	x := tree.New()
	puts(t, api.Snap{Nodes: x.Fixed(), Ops: x.Ops(), Base: x.Base()}, noughts(19))
}

// some is a tree with nodes and operations.
func some() api.Snap {
	return api.Snap{
		Nodes: []api.Node{node(at(1), api.Stamp{}, "a", ""), node(stamp(1, 2), at(258), "b", "v\x00"), node(at(258), theTrash, "é", "")},
		Ops:   []api.Op{trashOp(stamp(259, 3), at(1)), createOp(stamp(259, 4), at(1), "d"), setOp(at(300), at(9), "w")},
		Base:  stamp(259, 2),
	}
}

func TestTreeByteForByte(t *testing.T) {
	puts(t, some(), ""+
		"\x00\x00\x00\x00\x01\x03\x02"+
		"\x00\x00\x00\x00\x00\x03"+
		"\x00\x00\x00\x00\x00\x01\x01"+"\x00\x00\x00\x00\x00\x00\x00"+"\x00\x01a"+"\x00\x00"+
		"\x00\x00\x00\x00\x00\x01\x02"+"\x00\x00\x00\x00\x01\x02\x01"+"\x00\x01b"+"\x00\x02v\x00"+
		"\x00\x00\x00\x00\x01\x02\x01"+"\x00\x00\x00\x00\x00\x00\x01"+"\x00\x02\xc3\xa9"+"\x00\x00"+
		"\x00\x00\x00\x00\x00\x03"+
		"\x05"+"\x00\x00\x00\x00\x01\x03\x03"+"\x00\x00\x00\x00\x00\x01\x01"+"\x00\x00\x00\x00\x00\x00\x00"+"\x00\x00"+"\x00\x00"+
		"\x01"+"\x00\x00\x00\x00\x01\x03\x04"+"\x00\x00\x00\x00\x01\x03\x04"+"\x00\x00\x00\x00\x00\x01\x01"+"\x00\x01d"+"\x00\x00"+
		"\x04"+"\x00\x00\x00\x00\x01\x2c\x01"+"\x00\x00\x00\x00\x00\x09\x01"+"\x00\x00\x00\x00\x00\x00\x00"+"\x00\x00"+"\x00\x01w")
	puts(t, some(), snapBytes(some()))
}

func TestTreesOfOneThing(t *testing.T) {
	for _, s := range []api.Snap{
		{Base: at(1)}, {Base: stamp(1, 6)}, {Base: stamp(api.MaxTime, 6)},
		{Nodes: some().Nodes, Base: at(258)},
		{Nodes: some().Nodes, Base: stamp(api.MaxTime, 6)},
		{Nodes: some().Nodes[:1], Base: at(1)},
		{Ops: some().Ops},
		{Ops: some().Ops[:1]},
		{Ops: kinds()[:1]}, {Ops: kinds()[1:2]}, {Ops: kinds()[2:3]}, {Ops: kinds()[3:4]}, {Ops: kinds()[4:]},
		{Ops: some().Ops, Base: stamp(259, 2)},
		// A parent that stands behind it, and two with one name.
		{Nodes: []api.Node{node(at(1), at(2), "a", ""), node(at(2), at(3), "a", ""), node(at(3), api.Stamp{}, "a", "")}, Base: at(3)},
	} {
		puts(t, s, snapBytes(s))
	}
	for _, name := range names {
		s := api.Snap{Nodes: []api.Node{node(at(1), api.Stamp{}, name, strings.Repeat("\x00", 64))}, Base: at(1)}
		puts(t, s, snapBytes(s))
	}
}

func TestBasesThatMayNotBe(t *testing.T) {
	for _, base := range append(slices.Clone(noStamps), theTrash) {
		isNone(t, api.Snap{Base: base})
		isNone(t, api.Snap{Nodes: some().Nodes, Base: base})
		isNone(t, api.Snap{Ops: some().Ops, Base: base})
	}
	for _, base := range noBytes {
		putsNot(t, api.Snap{Base: base})
		putsNot(t, api.Snap{Nodes: some().Nodes, Base: base})
		putsNot(t, api.Snap{Ops: some().Ops, Base: base})
	}
	// A node that stands behind the base, an operation that does not.
	for _, base := range []api.Stamp{{}, at(1), at(257), stamp(257, 6)} {
		isNone(t, api.Snap{Nodes: some().Nodes, Base: base})
	}
	for _, base := range []api.Stamp{stamp(259, 3), stamp(259, 4), at(300), stamp(api.MaxTime, 6)} {
		isNone(t, api.Snap{Ops: some().Ops, Base: base})
	}
}

func TestNodesThatMayNotBe(t *testing.T) {
	base := stamp(api.MaxTime, 6)
	with := func(change func(n *api.Node)) []api.Snap {
		var l []api.Snap
		for i := range some().Nodes {
			s := api.Snap{Nodes: some().Nodes, Base: base}
			change(&s.Nodes[i])
			l = append(l, s)
		}
		return l
	}
	var l []api.Snap
	for _, name := range noNames {
		l = append(l, with(func(n *api.Node) { n.Name = name })...)
	}
	for _, k := range []int{65, 66, 256, 1<<16 - 1} {
		l = append(l, with(func(n *api.Node) { n.Value = strings.Repeat("v", k) })...)
	}
	for _, id := range slices.Concat(noStamps, tops) {
		l = append(l, with(func(n *api.Node) { n.Id = id })...)
	}
	for _, parent := range append(slices.Clone(noStamps), at(2), stamp(1, 3), stamp(258, 2), at(api.MaxTime)) {
		l = append(l, with(func(n *api.Node) { n.Parent = parent })...)
	}
	l = append(l, with(func(n *api.Node) { n.Parent = n.Id })...)
	l = append(l, with(func(n *api.Node) { *n = api.Node{} })...)
	for _, s := range l {
		isNone(t, s)
	}
	for _, x := range noBytes {
		for _, s := range slices.Concat(with(func(n *api.Node) { n.Id = x }), with(func(n *api.Node) { n.Parent = x })) {
			putsNot(t, s)
		}
	}
	for _, s := range with(func(n *api.Node) { n.Value = strings.Repeat("v", 1<<16) }) {
		putsNot(t, s)
	}
	for _, s := range with(func(n *api.Node) { n.Name = strings.Repeat("v", 1<<16) }) {
		putsNot(t, s)
	}
}

func TestNodesThatDoNotRise(t *testing.T) {
	l := []api.Node{node(at(1), api.Stamp{}, "a", ""), node(stamp(1, 2), api.Stamp{}, "b", ""), node(at(2), api.Stamp{}, "c", "")}
	for _, order := range [][]int{{1, 0, 2}, {0, 2, 1}, {2, 1, 0}, {0, 0, 1}, {0, 1, 1}, {0, 1, 2, 2}, {0, 1, 2, 0}, {0, 0}, {1, 0}} {
		s := api.Snap{Base: at(9)}
		for _, i := range order {
			s.Nodes = append(s.Nodes, l[i])
		}
		isNone(t, s)
	}
	// Two that have one number, but for all else differ.
	isNone(t, api.Snap{Nodes: []api.Node{node(at(1), api.Stamp{}, "a", ""), node(at(1), theTrash, "b", "v")}, Base: at(9)})
	puts(t, api.Snap{Nodes: l, Base: at(9)}, snapBytes(api.Snap{Nodes: l, Base: at(9)}))
}

func TestRings(t *testing.T) {
	for _, parents := range [][]int{{1}, {2, 1}, {3, 1, 2}, {2, 1, 0}, {2, 3, 2}, {0, 2}, {0, 3, 2}, {0, 1, 2, 4}, {2, 3, 4, 1, 0}} {
		s := api.Snap{Base: at(9)}
		for i, p := range parents {
			n := node(at(1+i), api.Stamp{}, "a", "")
			if p > 0 {
				n.Parent = at(p)
			}
			s.Nodes = append(s.Nodes, n)
		}
		isNone(t, s)
	}
}

func TestOperationsOfATreeThatMayNotBe(t *testing.T) {
	for _, o := range noOps() {
		isNone(t, api.Snap{Ops: []api.Op{o}})
		isNone(t, api.Snap{Ops: []api.Op{trashOp(at(1), at(1)), o, trashOp(at(99), at(1))}})
	}
	for _, x := range noBytes {
		putsNot(t, api.Snap{Ops: []api.Op{trashOp(x, at(1))}})
		putsNot(t, api.Snap{Ops: []api.Op{trashOp(at(1), x)}})
		putsNot(t, api.Snap{Ops: []api.Op{moveOp(at(2), at(1), x)}})
	}
	for _, k := range []int{-1, 257, 1<<32 + 1, math.MinInt, math.MaxInt} {
		o := createOp(at(1), api.Stamp{}, "a")
		o.Kind = k
		putsNot(t, api.Snap{Ops: []api.Op{o}})
	}
}

func TestOperationsThatDoNotRise(t *testing.T) {
	l := []api.Op{createOp(at(1), api.Stamp{}, "a"), setOp(stamp(1, 2), at(1), "v"), trashOp(at(2), at(1))}
	for _, order := range [][]int{{1, 0, 2}, {0, 2, 1}, {2, 1, 0}, {0, 0, 1}, {0, 1, 1}, {0, 1, 2, 2}, {0, 1, 2, 0}, {0, 0}, {1, 0}, {2, 2}} {
		var s api.Snap
		for _, i := range order {
			s.Ops = append(s.Ops, l[i])
		}
		isNone(t, s)
	}
	// Two with one stamp that differ.
	isNone(t, api.Snap{Ops: []api.Op{trashOp(at(2), at(1)), setOp(at(2), at(1), "v")}})
	// Layer 11 opens those that are but out of order.
	if _, e := tree.Of(api.Snap{Ops: []api.Op{l[2], l[0], l[1]}}); e != api.OK {
		t.Error(e)
	}
	puts(t, api.Snap{Ops: l}, snapBytes(api.Snap{Ops: l}))
}

// manyNodes are nodes, so many, below the root.
func manyNodes(n int) []api.Node {
	var l []api.Node
	for i := range n {
		l = append(l, node(at(1+i), api.Stamp{}, "a", ""))
	}
	return l
}

// manyOps are OpSets, so many.
func manyOps(n int) []api.Op {
	var l []api.Op
	for i := range n {
		l = append(l, setOp(at(1001+i), at(1), ""))
	}
	return l
}

func TestTheMostNodes(t *testing.T) {
	for _, n := range []int{1, 2, 255, 256, 257, 511, 512} {
		s := api.Snap{Nodes: manyNodes(n), Base: at(1000)}
		puts(t, s, snapBytes(s))
	}
	for _, n := range []int{513, 514, 1024, 3000} {
		isNone(t, api.Snap{Nodes: manyNodes(n), Base: at(9000)})
	}
	// Each below the one ahead, and below the next one.
	down := api.Snap{Nodes: manyNodes(512), Base: at(512)}
	up := api.Snap{Nodes: manyNodes(512), Base: at(512)}
	for i := range 511 {
		down.Nodes[1+i].Parent = at(1 + i)
		up.Nodes[i].Parent = at(2 + i)
	}
	puts(t, down, snapBytes(down))
	puts(t, up, snapBytes(up))
	up.Nodes[511].Parent = at(1)
	isNone(t, up)
}

func TestTheMostOperations(t *testing.T) {
	for _, n := range []int{1, 255, 256, 257, 511, 512} {
		s := api.Snap{Ops: manyOps(n)}
		puts(t, s, snapBytes(s))
		s.Nodes, s.Base = manyNodes(512), at(1000)
		puts(t, s, snapBytes(s))
	}
	for _, n := range []int{513, 514, 1024, 2500} {
		isNone(t, api.Snap{Ops: manyOps(n)})
	}
	// As many nodes as may be, and one that is to be made.
	s := api.Snap{Nodes: manyNodes(511), Ops: []api.Op{createOp(at(2000), api.Stamp{}, "a")}, Base: at(1000)}
	puts(t, s, snapBytes(s))
	s.Nodes = manyNodes(512)
	isNone(t, s)
	s.Ops = []api.Op{trashOp(at(2000), at(1))}
	puts(t, s, snapBytes(s))
}

// ofSize is a tree with so many bytes: values of nodes make them up.
func ofSize(t *testing.T, n int) api.Snap {
	t.Helper()
	s := api.Snap{Nodes: manyNodes(512), Ops: manyOps(512), Base: at(1000)}
	left := n - len(snapBytes(s))
	for i := range s.Nodes {
		k := min(left, 64)
		s.Nodes[i].Value = strings.Repeat("v", k)
		left -= k
	}
	for i := range s.Ops {
		k := min(left, 64)
		s.Ops[i].Value = strings.Repeat("w", k)
		left -= k
	}
	if left != 0 || len(snapBytes(s)) != n {
		t.Fatal(left, len(snapBytes(s)))
	}
	if _, e := tree.Of(s); e != api.OK {
		t.Fatal(e)
	}
	return s
}

func TestTheMostBytes(t *testing.T) {
	for _, n := range []int{1<<16 - 2, 1<<16 - 1, 1 << 16} {
		s := ofSize(t, n)
		puts(t, s, snapBytes(s))
	}
	for _, n := range []int{1<<16 + 1, 1<<16 + 2, 1<<16 + 19, 70000, 80000} {
		isNone(t, ofSize(t, n))
	}
	// Of nodes alone.
	s := api.Snap{Nodes: manyNodes(512), Base: at(1000)}
	for i := range s.Nodes {
		s.Nodes[i].Name, s.Nodes[i].Value = names[len(names)-1], strings.Repeat("v", 64)
	}
	isNone(t, s)
	s.Nodes = s.Nodes[:311]
	puts(t, s, snapBytes(s))
}

func TestBeginningsOfTrees(t *testing.T) {
	long := strings.Repeat("\x00", 64)
	l := []api.Snap{some(), {Base: at(1)}, {Nodes: some().Nodes, Base: at(300)}, {Ops: some().Ops}, {Ops: kinds()[3:4], Base: at(2)},
		{Nodes: []api.Node{node(at(1), api.Stamp{}, "a", long)}, Ops: []api.Op{setOp(at(9), at(1), long)}, Base: at(1)}}
	for _, s := range l {
		b := snapBytes(s)
		for n := range len(b) {
			takesNot(t, b[:n])
			// An end of them may be those of another tree.
			takenTree(t, b[n+1:])
		}
		for _, more := range []string{"\x00", "\x01", "a", "\x00\x00", b, opBytes(trashOp(at(9999), at(1))), strings.Repeat("\x00", 19), strings.Repeat("\x00", 1<<16)} {
			takesNot(t, b+more)
		}
		takesNot(t, "\x00"+b)
	}
	// Of the most bytes: not each one, as that were slow.
	b := snapBytes(ofSize(t, 1<<16))
	for n := 0; n < len(b); n += 1 + n/50 {
		takesNot(t, b[:n])
		takesNot(t, b[:len(b)-1-n])
	}
	takesNot(t, b+"\x00")
}

func TestNumbersThatAreNotWhatStandsThere(t *testing.T) {
	for _, s := range []api.Snap{some(), {}, {Base: at(1)}, {Nodes: some().Nodes, Base: at(300)}, {Ops: some().Ops}} {
		nodes, ops := len(s.Nodes), len(s.Ops)
		takesNot(t, countedBytes(s, nodes+1, ops))
		takesNot(t, countedBytes(s, nodes, ops+1))
		for _, n := range []int{nodes + 256, 512, 513, 1 << 16, 1 << 32, 1 << 39, api.MaxTime - 1, api.MaxTime} {
			takesNot(t, countedBytes(s, n, ops))
			takesNot(t, countedBytes(s, nodes, n))
			takesNot(t, countedBytes(s, n, n))
		}
		// Above the greatest number, and with the lowest bits of the right one.
		for _, n := range []int{1 << 40, 1<<40 + 1, 1 << 47, 1<<48 - 1} {
			takesNot(t, countedBytes(s, n+nodes, ops))
			takesNot(t, countedBytes(s, nodes, n+ops))
		}
		for n := range nodes {
			takesNot(t, countedBytes(s, n, ops))
		}
		for n := range ops {
			takesNot(t, countedBytes(s, nodes, n))
		}
	}
}

func TestNumbersOfManyBytes(t *testing.T) {
	// As many bytes as may be behind the greatest numbers: no list is made of more than there is.
	for _, n := range []int{1 << 16, api.MaxTime} {
		for _, fill := range []string{"\x00", "\x01", "\xff"} {
			rest := strings.Repeat(fill, 1<<16-13)
			takesNot(t, stampBytes(at(1))+numBytes(n)+rest)
			takesNot(t, stampBytes(at(1))+numBytes(0)+numBytes(n)+rest[6:])
			takesNot(t, stampBytes(api.Stamp{})+numBytes(n)+rest)
		}
	}
	long := strings.Repeat("\x00", 1<<24)
	takesNot(t, stampBytes(at(1))+numBytes(api.MaxTime)+long)
	takesNoOp(t, opBytes(trashOp(at(1), at(1)))+long)
	if n := testing.AllocsPerRun(10, func() { Take(long) }); n > 1 {
		t.Error("far too many bytes are read:", n)
	}
}

func TestWrongPartsOfATree(t *testing.T) {
	s := api.Snap{Nodes: []api.Node{node(at(1), api.Stamp{}, "ab", "cd")}, Ops: []api.Op{setOp(at(9), at(1), "ef")}, Base: at(1)}
	b := snapBytes(s)
	puts(t, s, b)
	// Numbers above the greatest one: of the base, the nodes, a node, the operations, an operation.
	for _, place := range []int{0, 7, 13, 20, 35, 42, 49, 56} {
		if b[place] != 0 {
			t.Fatal(place)
		}
		takesNot(t, b[:place]+"\x01"+b[place+1:])
		takesNot(t, b[:place]+"\x80"+b[place+1:])
	}
	// Lengths that are not those of what stands there.
	for _, place := range []int{27, 31, 63, 65} {
		for _, l := range []string{"\x00\x00", "\x00\x01", "\x00\x02", "\x00\x03", "\x00\x04", "\x00\x05", "\x01\x02", "\xff\xff"} {
			if b[place:place+2] != l {
				takesNot(t, b[:place]+l+b[place+2:])
			}
		}
	}
}

func TestWhichTreesAreRefused(t *testing.T) {
	// What layer 11 refuses by ErrFull is ErrArg here, too.
	s := api.Snap{Ops: manyOps(513)}
	if _, e := tree.Of(s); e != api.ErrFull {
		t.Fatal(e)
	}
	putsNot(t, s)
	s = api.Snap{Nodes: manyNodes(512), Ops: []api.Op{createOp(at(2000), api.Stamp{}, "a")}, Base: at(1000)}
	if _, e := tree.Of(s); e != api.ErrFull {
		t.Fatal(e)
	}
	putsNot(t, s)
}

// Sn3.

// drawnTree is a tree as clients make it: drawn operations, some of them for good.
func drawnTree(r *rand.Rand) api.Snap {
	x := tree.New()
	made := []api.Stamp{{}, theTrash}
	for time := range 1 + r.Intn(30) {
		when := stamp(1+time, 1+r.Intn(6))
		of, into := made[r.Intn(len(made))], made[r.Intn(len(made))]
		o := createOp(when, into, names[r.Intn(len(names))])
		switch r.Intn(8) {
		case 0:
			o = moveOp(when, of, into)
		case 1:
			o = renameOp(when, of, names[r.Intn(len(names))])
		case 2, 3:
			o = setOp(when, of, drawnText(r, 65))
		case 4:
			o = trashOp(when, of)
		}
		if x.Apply(o) == api.OK && o.Kind == api.OpCreate {
			made = append(made, when)
		}
	}
	x.Compact(stamp(r.Intn(40), 1+r.Intn(6)))
	return api.Snap{Nodes: x.Fixed(), Ops: x.Ops(), Base: x.Base()}
}

func TestDrawnTrees(t *testing.T) {
	r := rand.New(rand.NewSource(132))
	nodes, ops := 0, 0
	for range 2000 {
		s := drawnTree(r)
		nodes, ops = nodes+len(s.Nodes), ops+len(s.Ops)
		b := snapBytes(s)
		puts(t, s, b)
		taken, _ := Take(b)
		again, e := tree.Of(taken)
		was, _ := tree.Of(s)
		if e != api.OK || !slices.Equal(again.Nodes(), was.Nodes()) {
			t.Error("another tree:", s)
		}
	}
	if nodes < 5000 || ops < 5000 {
		t.Error("too few:", nodes, ops)
	}
}

// takenTree holds that bytes are taken as the other way tells, and tells whether they were.
func takenTree(t *testing.T, b string) bool {
	t.Helper()
	want, may := hasTree(b)
	if !may {
		takesNot(t, b)
		return false
	}
	puts(t, want, b)
	return true
}

func TestTurnedBytesOfTrees(t *testing.T) {
	r := rand.New(rand.NewSource(133))
	yes, no := 0, 0
	count := func(taken bool) {
		if taken {
			yes++
		} else {
			no++
		}
	}
	b := []byte(snapBytes(some()))
	for i := range b {
		was := b[i]
		for c := range 256 {
			b[i] = byte(c)
			count(takenTree(t, string(b)))
		}
		b[i] = was
	}
	for range 3000 {
		b := []byte(snapBytes(drawnTree(r)))
		for range 1 + r.Intn(2) {
			i := r.Intn(len(b))
			switch r.Intn(4) {
			case 0:
				b = slices.Delete(b, i, i+1)
			case 1:
				b = slices.Insert(b, i, byte(r.Intn(256)))
			default:
				b[i] = byte(r.Intn(256))
			}
		}
		count(takenTree(t, string(b)))
	}
	if yes < 1000 || no < 1000 {
		t.Error("too few:", yes, no)
	}
}

func TestDrawnBytes(t *testing.T) {
	r := rand.New(rand.NewSource(134))
	for range 20000 {
		b := drawnText(r, 100)
		takenTree(t, b)
		takenOp(t, b)
		// Small bytes alone are more often parts that may be.
		small := []byte(b)
		for i := range small {
			small[i] &= byte(r.Intn(4) * r.Intn(2))
		}
		takenTree(t, string(small))
		takenOp(t, string(small))
	}
}

func TestNoTreeBeginsAnother(t *testing.T) {
	r := rand.New(rand.NewSource(135))
	seen := map[string]api.Snap{}
	var l []string
	for range 400 {
		s := drawnTree(r)
		b, _ := Put(s)
		if was, there := seen[b]; there && !sameSnap(was, s) {
			t.Errorf("bytes of two trees: %v, %v", was, s)
		}
		seen[b] = s
		l = append(l, b)
	}
	slices.Sort(l)
	l = slices.Compact(l)
	for i := 1; i < len(l); i++ {
		if strings.HasPrefix(l[i], l[i-1]) {
			t.Errorf("%x begins %x", l[i-1], l[i])
		}
	}
}

// Trees that differ in one thing alone have other bytes.
func TestBytesOfOneTreeAlone(t *testing.T) {
	l := []api.Snap{some()}
	change := func(to func(s *api.Snap)) {
		s := some()
		to(&s)
		l = append(l, s)
	}
	change(func(s *api.Snap) { s.Base = at(259) })
	change(func(s *api.Snap) { s.Nodes = s.Nodes[2:] })
	change(func(s *api.Snap) { s.Ops = s.Ops[1:] })
	change(func(s *api.Snap) { s.Nodes[1].Id = stamp(1, 3) })
	change(func(s *api.Snap) { s.Nodes[1].Id = stamp(2, 2) })
	change(func(s *api.Snap) { s.Nodes[0].Name = "b" })
	change(func(s *api.Snap) { s.Nodes[0].Value = "v" })
	change(func(s *api.Snap) { s.Nodes[0].Parent = theTrash })
	change(func(s *api.Snap) { s.Ops[0].Kind, s.Ops[0].Value = api.OpSet, "" })
	change(func(s *api.Snap) { s.Ops[2].At = stamp(300, 2) })
	change(func(s *api.Snap) { s.Ops[2].At = at(301) })
	change(func(s *api.Snap) { s.Ops[0].Node = at(2) })
	change(func(s *api.Snap) { s.Ops[1].Parent = theTrash })
	change(func(s *api.Snap) { s.Ops[1].Name = "e" })
	change(func(s *api.Snap) { s.Ops[2].Value = "" })
	change(func(s *api.Snap) { s.Ops[2].Value, s.Ops[2].Name, s.Ops[2].Kind = "", "w", api.OpRename })
	for i, a := range l {
		for _, b := range l[i+1:] {
			x, e := Put(a)
			y, f := Put(b)
			if e != api.OK || f != api.OK || (x == y) != sameSnap(a, b) {
				t.Errorf("%v and %v: %x %d %x %d", a, b, x, e, y, f)
			}
		}
	}
}

// R1, R3 and R4.

func TestWildTreesEnd(t *testing.T) {
	r := rand.New(rand.NewSource(136))
	wildStamp := func() api.Stamp { return stamp(wild[r.Intn(len(wild))], wild[r.Intn(len(wild))]) }
	texts := slices.Concat(names, noNames)
	text := func() string { return texts[r.Intn(len(texts))] }
	for range 5000 {
		var s api.Snap
		if r.Intn(2) == 0 {
			s.Base = wildStamp()
		}
		for range r.Intn(3) {
			s.Nodes = append(s.Nodes, node(wildStamp(), wildStamp(), text(), text()))
		}
		for range r.Intn(3) {
			s.Ops = append(s.Ops, api.Op{Kind: wild[r.Intn(len(wild))], At: wildStamp(), Node: wildStamp(), Parent: wildStamp(), Name: text(), Value: text()})
		}
		if mayBe(s) {
			puts(t, s, snapBytes(s))
		} else {
			putsNot(t, s)
		}
		for _, o := range s.Ops {
			if tree.Check(o) == api.OK {
				putsOp(t, o, opBytes(o))
			} else {
				putsNoOp(t, o)
			}
		}
	}
}

func TestWhatIsHandedInStands(t *testing.T) {
	// Each list with room behind its end, in which stand what would be taken as well.
	nodes := append(some().Nodes, node(stamp(258, 2), api.Stamp{}, "behind", ""))
	ops := append(some().Ops, trashOp(at(400), at(1)))
	wasNodes, wasOps := slices.Clone(nodes), slices.Clone(ops)
	s := api.Snap{Nodes: nodes[:3], Ops: ops[:3], Base: some().Base}
	for range 2 {
		puts(t, s, snapBytes(some()))
	}
	// A refused one as well: out of order, and with one that may not be.
	s.Ops[0], s.Ops[1] = s.Ops[1], s.Ops[0]
	wasTurned := slices.Clone(ops)
	putsNot(t, s)
	if !slices.Equal(ops, wasTurned) {
		t.Error("put in order:", ops)
	}
	s.Ops[0], s.Ops[1] = s.Ops[1], s.Ops[0]
	s.Base = api.Stamp{}
	putsNot(t, s)
	if !slices.Equal(nodes, wasNodes) || !slices.Equal(ops, wasOps) || len(s.Nodes) != 3 || len(s.Ops) != 3 {
		t.Error("changed:", nodes, ops)
	}
}

func TestWhatIsHandedOutIsNew(t *testing.T) {
	b := snapBytes(some())
	one, _ := Take(b)
	two, _ := Take(b)
	// Written over up to the end of its room.
	for _, l := range [][]api.Node{one.Nodes, one.Nodes[:cap(one.Nodes)]} {
		for i := range l {
			l[i] = node(at(7), at(7), "z", "z")
		}
	}
	for _, l := range [][]api.Op{one.Ops, one.Ops[:cap(one.Ops)]} {
		for i := range l {
			l[i] = trashOp(at(7), at(7))
		}
	}
	if !sameSnap(two, some()) {
		t.Error("changed:", two)
	}
	puts(t, some(), b)
	// What was put is not bound to what was handed in.
	s := some()
	was, _ := Put(s)
	s.Nodes[0].Name, s.Ops[0].Node = "z", at(7)
	if was != b {
		t.Errorf("%x", was)
	}
}

func TestTheSameOnceMore(t *testing.T) {
	r := rand.New(rand.NewSource(137))
	for range 200 {
		s := drawnTree(r)
		one, e := Put(s)
		putsNot(t, api.Snap{Base: theTrash})
		takesNot(t, one+"\x00")
		two, f := Put(s)
		if one != two || e != f {
			t.Errorf("%v: %x, %x", s, one, two)
		}
	}
}
