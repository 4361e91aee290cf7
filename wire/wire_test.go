package wire

import (
	"encoding/binary"
	"encoding/hex"
	"fmt"
	"math"
	"math/rand"
	"slices"
	"strings"
	"testing"

	"samphire/api"
	"samphire/snap"
	"samphire/tree"
)

const (
	maxTime = 1<<40 - 1
	blob    = 20000
	text    = 1 << 16
)

// wild are numbers at all edges, of any kind.
var wild = []int{math.MinInt, -1 << 40, -256, -7, -1, 0, 1, 2, 3, 4, 5, 6, 7, 9, 10, 255, 256, 257, 999, 1000, 1<<32 + 1, maxTime, maxTime + 1, 1<<40 + 1, 1 << 48, math.MaxInt}

// noNums are numbers that are none of layer 9's.
var noNums = []int{-1, -2, math.MinInt, maxTime + 1, maxTime + 2, 1 << 48, 1<<48 + 1, math.MaxInt}

// highNums are those of them that six bytes can hold.
var highNums = []int{maxTime + 1, maxTime + 2, 1<<48 - 1}

var head = strings.Repeat("h", 32)

func stamp(time, who int) api.Stamp { return api.Stamp{Time: time, Who: who} }

// wraps are wraps for these.
func wraps(l ...int) []api.Wrap {
	var all []api.Wrap
	for _, who := range l {
		all = append(all, api.Wrap{Who: who, Text: strings.Repeat(string(rune('a'+byte(who)%26)), 48)})
	}
	return all
}

// ops are operations of a client that may be, one of each kind.
func ops(who int) []api.Op {
	at, id := stamp(9, who), stamp(258, 2)
	return []api.Op{
		{Kind: api.OpCreate, At: at, Node: at, Parent: id, Name: "é"},
		{Kind: api.OpMove, At: at, Node: id, Parent: stamp(0, 1)},
		{Kind: api.OpRename, At: at, Node: id, Name: "ab"},
		{Kind: api.OpSet, At: at, Node: id, Value: "\x00\xff"},
		{Kind: api.OpTrash, At: at, Node: id},
	}
}

func opRecord() api.Record {
	return api.Record{Kind: api.RecOp, From: 3, Count: 5, Seq: 7, Head: head, Op: ops(3)[0]}
}

func addRecord() api.Record {
	return api.Record{Kind: api.RecAdd, From: 1, Count: 3, Seq: 2, Head: head, Who: 4, Wraps: wraps(1, 4)}
}

func removeRecord() api.Record {
	return api.Record{Kind: api.RecRemove, From: 1, Count: 3, Seq: 2, Head: head, Who: 4, Wraps: wraps(1, 2, 6)}
}

func rotateRecord() api.Record {
	return api.Record{Kind: api.RecRotate, From: 1, Count: 3, Seq: 2, Head: head, Wraps: wraps(1, 2)}
}

// records are records that may be, of each kind, and at many edges.
func records() []api.Record {
	l := []api.Record{opRecord(), addRecord(), removeRecord(), rotateRecord()}
	for _, o := range ops(6) {
		l = append(l, api.Record{Kind: api.RecOp, From: 6, Count: 1, Head: strings.Repeat("\x00", 32), Op: o})
	}
	for _, r := range []api.Record{addRecord(), removeRecord(), rotateRecord()} {
		for _, w := range [][]api.Wrap{nil, {}, wraps(6), wraps(1, 2, 3, 4, 5, 6)} {
			r.Wraps = w
			l = append(l, r)
		}
	}
	return l
}

// item is an item with a blob of so many bytes.
func item(seq, epoch, n int) api.Item {
	return api.Item{Seq: seq, Epoch: epoch, Blob: strings.Repeat("i", n)}
}

// items are so many items, with blobs of so many bytes.
func items(n, size int) []api.Item {
	var l []api.Item
	for i := range n {
		l = append(l, item(1+i, 2, size))
	}
	return l
}

// full are frames of each kind, with all that each one names.
func full() []api.Frame {
	return []api.Frame{
		{Kind: api.FrameAppend, Group: 258, Epoch: 3, Blob: "blob"},
		{Kind: api.FrameTaken, Group: 258, Seq: 4},
		{Kind: api.FrameFetch, Group: 258, Seq: 4, Max: 5},
		{Kind: api.FrameGiven, Group: 258, Items: []api.Item{{Seq: 6, Epoch: 3, Blob: "one"}, {Seq: 7, Epoch: 4, Blob: "two"}}},
		{Kind: api.FrameKeep, Group: 258, Seq: 4, Epoch: 3, Blob: "blob"},
		{Kind: api.FrameKept, Group: 258, Seq: 4},
		{Kind: api.FrameAsk, Group: 258},
		{Kind: api.FrameSnap, Group: 258, Seq: 4, Epoch: 3, Blob: "blob"},
		{Kind: api.FrameError, Group: 258, Err: 190},
	}
}

// frames are frames that may be, of each kind, and at many edges.
func frames() []api.Frame {
	l := full()
	for kind := api.FrameAppend; kind <= api.FrameError; kind++ {
		l = append(l, api.Frame{Kind: kind}, api.Frame{Kind: kind, Items: []api.Item{}}, api.Frame{Kind: kind, Group: maxTime})
	}
	for _, n := range []int{1, 31, 32} {
		l = append(l, api.Frame{Kind: api.FrameGiven, Items: items(n, 0)}, api.Frame{Kind: api.FrameGiven, Group: 1, Items: items(n, 1000)})
	}
	return append(l, api.Frame{Kind: api.FrameGiven, Items: []api.Item{{}, {}, item(maxTime, maxTime, blob)}})
}

// The bytes of parts, of records and of frames, made by another way: of what may not be, too.

func oneByte(n int) string { return string([]byte{byte(n)}) }

func numBytes(n int) string { return string(binary.BigEndian.AppendUint64(nil, uint64(n))[2:]) }

func textBytes(s string) string {
	return string(binary.BigEndian.AppendUint16(nil, uint16(len(s)))) + s
}

func opBytes(o api.Op) string {
	all := oneByte(o.Kind)
	for _, s := range []api.Stamp{o.At, o.Node, o.Parent} {
		all += numBytes(s.Time) + oneByte(s.Who)
	}
	return all + textBytes(o.Name) + textBytes(o.Value)
}

// recordOfText are a record's bytes, but with any text for its operation.
func recordOfText(r api.Record, op string) string {
	all := oneByte(r.Kind) + oneByte(r.From) + numBytes(r.Count) + numBytes(r.Seq) + textBytes(r.Head) + textBytes(op) + oneByte(r.Who) + oneByte(len(r.Wraps))
	for _, w := range r.Wraps {
		all += oneByte(w.Who) + textBytes(w.Text)
	}
	return all
}

func recordBytes(r api.Record) string {
	if r.Op == (api.Op{}) {
		return recordOfText(r, "")
	}
	return recordOfText(r, opBytes(r.Op))
}

func frameBytes(f api.Frame) string {
	var b strings.Builder
	b.WriteString(oneByte(f.Kind))
	for _, n := range []int{f.Group, f.Seq, f.Epoch, f.Max, int(f.Err)} {
		b.WriteString(numBytes(n))
	}
	b.WriteString(textBytes(f.Blob) + oneByte(len(f.Items)))
	for _, i := range f.Items {
		b.WriteString(numBytes(i.Seq) + numBytes(i.Epoch) + textBytes(i.Blob))
	}
	return b.String()
}

// The other way to tell what may be.

func within(n, least, most int) bool { return n >= least && n <= most }

func mayRecord(r api.Record) bool {
	if !within(r.Kind, 1, 4) || !within(r.From, 1, 6) || !within(r.Count, 1, maxTime) || !within(r.Seq, 0, maxTime) || len(r.Head) != 32 {
		return false
	}
	if r.Kind == 1 {
		return tree.Check(r.Op) == api.OK && r.Op.At.Who == r.From && r.Who == 0 && len(r.Wraps) == 0
	}
	if r.Op != (api.Op{}) || len(r.Wraps) > 6 || (r.Kind == 4) != (r.Who == 0) || !within(r.Who, 0, 6) {
		return false
	}
	for i, w := range r.Wraps {
		if !within(w.Who, 1, 6) || len(w.Text) != 48 || i > 0 && r.Wraps[i-1].Who >= w.Who {
			return false
		}
	}
	return true
}

// named are the parts that a kind names, by their first letters.
var named = []string{"", "eb", "s", "sm", "i", "seb", "s", "", "seb", "r"}

func mayFrame(f api.Frame) bool {
	if !within(f.Kind, 1, 9) {
		return false
	}
	for _, n := range []int{f.Group, f.Seq, f.Epoch, f.Max} {
		if !within(n, 0, maxTime) {
			return false
		}
	}
	if !within(int(f.Err), 0, 999) || len(f.Blob) > blob || len(f.Items) > 32 {
		return false
	}
	for _, i := range f.Items {
		if !within(i.Seq, 0, maxTime) || !within(i.Epoch, 0, maxTime) || len(i.Blob) > blob {
			return false
		}
	}
	for _, p := range frameParts() {
		if !strings.Contains(named[f.Kind], p.letter) && p.has(f) {
			return false
		}
	}
	return len(frameBytes(f)) <= text
}

// framePart is one of what a kind may name.
type framePart struct {
	letter string
	has    func(f api.Frame) bool
	fill   []func(f *api.Frame)
}

// frameParts are all of them, each with ways to fill it.
func frameParts() []framePart {
	return []framePart{
		{"s", func(f api.Frame) bool { return f.Seq != 0 }, []func(*api.Frame){func(f *api.Frame) { f.Seq = 1 }, func(f *api.Frame) { f.Seq = maxTime }}},
		{"e", func(f api.Frame) bool { return f.Epoch != 0 }, []func(*api.Frame){func(f *api.Frame) { f.Epoch = 1 }, func(f *api.Frame) { f.Epoch = maxTime }}},
		{"m", func(f api.Frame) bool { return f.Max != 0 }, []func(*api.Frame){func(f *api.Frame) { f.Max = 1 }, func(f *api.Frame) { f.Max = maxTime }}},
		{"b", func(f api.Frame) bool { return f.Blob != "" }, []func(*api.Frame){func(f *api.Frame) { f.Blob = "\x00" }, func(f *api.Frame) { f.Blob = strings.Repeat("b", blob) }}},
		{"i", func(f api.Frame) bool { return len(f.Items) > 0 }, []func(*api.Frame){func(f *api.Frame) { f.Items = []api.Item{{}} }, func(f *api.Frame) { f.Items = items(32, 3) }}},
		{"r", func(f api.Frame) bool { return f.Err != 0 }, []func(*api.Frame){func(f *api.Frame) { f.Err = 1 }, func(f *api.Frame) { f.Err = 999 }}},
	}
}

// The other way to read them: it gives up at what is not there.

type reader struct {
	left string
	ok   bool
}

func (r *reader) cut(n int) string {
	if n > len(r.left) {
		r.left, r.ok = "", false
		return strings.Repeat("\x00", min(n, 8))
	}
	s := r.left[:n]
	r.left = r.left[n:]
	return s
}

func (r *reader) byte() int { return int(r.cut(1)[0]) }

func (r *reader) num() int {
	n := binary.BigEndian.Uint64([]byte("\x00\x00" + r.cut(6)))
	r.ok = r.ok && n>>40 == 0
	return int(n)
}

func (r *reader) text() string { return r.cut(int(binary.BigEndian.Uint16([]byte(r.cut(2))))) }

func (r *reader) whole() bool { return r.ok && r.left == "" }

// hasRecord tells whether bytes are those of a record that may be, and gives it, by that other way.
func hasRecord(b string) (api.Record, bool) {
	r := &reader{left: b, ok: true}
	x := api.Record{Kind: r.byte(), From: r.byte(), Count: r.num(), Seq: r.num(), Head: r.text()}
	op := r.text()
	x.Who = r.byte()
	for n := r.byte(); n > 0 && r.ok; n-- {
		x.Wraps = append(x.Wraps, api.Wrap{Who: r.byte(), Text: r.text()})
	}
	e := api.OK
	if op != "" {
		x.Op, e = snap.TakeOp(op)
	}
	if !r.whole() || e != api.OK || !mayRecord(x) {
		return api.Record{}, false
	}
	return x, true
}

// hasFrame tells the same of a frame.
func hasFrame(b string) (api.Frame, bool) {
	r := &reader{left: b, ok: true}
	x := api.Frame{Kind: r.byte(), Group: r.num(), Seq: r.num(), Epoch: r.num(), Max: r.num(), Err: api.Errno(r.num()), Blob: r.text()}
	for n := r.byte(); n > 0 && r.ok; n-- {
		x.Items = append(x.Items, api.Item{Seq: r.num(), Epoch: r.num(), Blob: r.text()})
	}
	if !r.whole() || !mayFrame(x) {
		return api.Frame{}, false
	}
	return x, true
}

func sameRecord(a, b api.Record) bool {
	return a.Kind == b.Kind && a.From == b.From && a.Count == b.Count && a.Seq == b.Seq && a.Head == b.Head && a.Op == b.Op && a.Who == b.Who && slices.Equal(a.Wraps, b.Wraps)
}

func sameFrame(a, b api.Frame) bool {
	return a.Kind == b.Kind && a.Group == b.Group && a.Seq == b.Seq && a.Epoch == b.Epoch && a.Max == b.Max && a.Blob == b.Blob && a.Err == b.Err && slices.Equal(a.Items, b.Items)
}

// short is a thing as a test tells it: some may be very long.
func short(x any) string { return fmt.Sprintf("%.300s", fmt.Sprint(x)) }

// putsRecord holds that a record may be, has these bytes, and is taken of them.
func putsRecord(t *testing.T, r api.Record, want string) {
	t.Helper()
	if e := Check(r); e != api.OK {
		t.Errorf("Check %s: %d", short(r), e)
	}
	if b, e := PutRecord(r); b != want || e != api.OK {
		t.Errorf("PutRecord %s: %.200x %d, not %.200x", short(r), b, e, want)
	}
	if x, e := TakeRecord(want); !sameRecord(x, r) || e != api.OK {
		t.Errorf("TakeRecord %.200x: %s %d, not %s", want, short(x), e, short(r))
	}
}

// isRecord is that, with the bytes that the other way gives.
func isRecord(t *testing.T, r api.Record) {
	t.Helper()
	putsRecord(t, r, recordBytes(r))
}

// putsNoRecord holds that a record is refused.
func putsNoRecord(t *testing.T, r api.Record) {
	t.Helper()
	if e := Check(r); e != api.ErrArg {
		t.Errorf("Check %s: %d, not ErrArg", short(r), e)
	}
	if b, e := PutRecord(r); b != "" || e != api.ErrArg {
		t.Errorf("PutRecord %s: %.200x %d, not ErrArg", short(r), b, e)
	}
}

// takesNoRecord holds that bytes are those of no record.
func takesNoRecord(t *testing.T, b string) {
	t.Helper()
	if r, e := TakeRecord(b); !sameRecord(r, api.Record{}) || e != api.ErrWire {
		t.Errorf("TakeRecord %.200x: %s %d, not ErrWire", b, short(r), e)
	}
}

// isNoRecord holds that a record that has bytes is refused, and so are these.
func isNoRecord(t *testing.T, r api.Record) {
	t.Helper()
	putsNoRecord(t, r)
	takesNoRecord(t, recordBytes(r))
}

// puts holds that a frame has these bytes, and is taken of them.
func puts(t *testing.T, f api.Frame, want string) {
	t.Helper()
	if b, e := Put(f); b != want || e != api.OK {
		t.Errorf("Put %s: %d bytes %.100x %d, not %d bytes %.100x", short(f), len(b), b, e, len(want), want)
	}
	if x, e := Take(want); !sameFrame(x, f) || e != api.OK {
		t.Errorf("Take %.100x: %s %d, not %s", want, short(x), e, short(f))
	}
}

// isFrame is that, with the bytes that the other way gives.
func isFrame(t *testing.T, f api.Frame) {
	t.Helper()
	puts(t, f, frameBytes(f))
}

// putsNot holds that a frame is refused.
func putsNot(t *testing.T, f api.Frame) {
	t.Helper()
	if b, e := Put(f); b != "" || e != api.ErrArg {
		t.Errorf("Put %s: %d bytes %.100x %d, not ErrArg", short(f), len(b), b, e)
	}
}

// takesNot holds that bytes are those of no frame.
func takesNot(t *testing.T, b string) {
	t.Helper()
	if f, e := Take(b); !sameFrame(f, api.Frame{}) || e != api.ErrWire {
		t.Errorf("Take of %d bytes %.100x: %s %d, not ErrWire", len(b), b, short(f), e)
	}
}

// isNone holds that a frame that has bytes is refused, and so are these.
func isNone(t *testing.T, f api.Frame) {
	t.Helper()
	putsNot(t, f)
	takesNot(t, frameBytes(f))
}

// Wi1.

func TestRecordsByteForByte(t *testing.T) {
	same := func(c byte, n int) string { return strings.Repeat(string([]byte{c}), n) }
	for _, c := range []struct {
		r    api.Record
		want string
	}{
		{
			api.Record{Kind: api.RecOp, From: 3, Count: 258, Seq: 0x0102030405, Head: head, Op: ops(3)[4]},
			"\x01\x03" + "\x00\x00\x00\x00\x01\x02" + "\x00\x01\x02\x03\x04\x05" + "\x00\x20" + head +
				"\x00\x1a" + "\x05\x00\x00\x00\x00\x00\x09\x03\x00\x00\x00\x00\x01\x02\x02\x00\x00\x00\x00\x00\x00\x00\x00\x00\x00\x00" + "\x00" + "\x00",
		},
		{
			api.Record{Kind: api.RecOp, From: 6, Count: 1, Head: same(0, 32), Op: ops(6)[0]},
			"\x01\x06" + "\x00\x00\x00\x00\x00\x01" + "\x00\x00\x00\x00\x00\x00" + "\x00\x20" + same(0, 32) +
				"\x00\x1c" + "\x01\x00\x00\x00\x00\x00\x09\x06\x00\x00\x00\x00\x00\x09\x06\x00\x00\x00\x00\x01\x02\x02\x00\x02\xc3\xa9\x00\x00" + "\x00" + "\x00",
		},
		{
			api.Record{Kind: api.RecAdd, From: 1, Count: 3, Seq: 2, Head: head, Who: 4, Wraps: []api.Wrap{{Who: 1, Text: same('v', 48)}, {Who: 4, Text: same('x', 48)}}},
			"\x02\x01" + "\x00\x00\x00\x00\x00\x03" + "\x00\x00\x00\x00\x00\x02" + "\x00\x20" + head + "\x00\x00" + "\x04" + "\x02" +
				"\x01\x00\x30" + same('v', 48) + "\x04\x00\x30" + same('x', 48),
		},
		{
			api.Record{Kind: api.RecRemove, From: 5, Count: maxTime, Seq: maxTime, Head: same(255, 32), Who: 6, Wraps: []api.Wrap{{Who: 2, Text: same(0, 48)}}},
			"\x03\x05" + "\x00\xff\xff\xff\xff\xff" + "\x00\xff\xff\xff\xff\xff" + "\x00\x20" + same(255, 32) + "\x00\x00" + "\x06" + "\x01" +
				"\x02\x00\x30" + same(0, 48),
		},
		{
			api.Record{Kind: api.RecRotate, From: 1, Count: 1, Head: head},
			"\x04\x01" + "\x00\x00\x00\x00\x00\x01" + "\x00\x00\x00\x00\x00\x00" + "\x00\x20" + head + "\x00\x00" + "\x00" + "\x00",
		},
	} {
		putsRecord(t, c.r, c.want)
		isRecord(t, c.r)
	}
}

func TestRecordsThatMayBe(t *testing.T) {
	for _, r := range records() {
		isRecord(t, r)
	}
}

// with is a record changed at one place.
func with(r api.Record, change func(r *api.Record)) api.Record {
	change(&r)
	return r
}

func kinds() []api.Record {
	return []api.Record{opRecord(), addRecord(), removeRecord(), rotateRecord()}
}

func TestFrom(t *testing.T) {
	for _, r := range kinds() {
		from := func(n int) api.Record {
			return with(r, func(r *api.Record) {
				r.From = n
				// An operation is of the same one: so From alone is why.
				if r.Kind == api.RecOp {
					r.Op.At.Who, r.Op.Node.Who = n, n
				}
			})
		}
		for n := 1; n <= 6; n++ {
			isRecord(t, from(n))
		}
		for _, n := range []int{0, 7, 8, 255} {
			isNoRecord(t, from(n))
		}
		for _, n := range []int{-1, 256, 257, 1<<32 + 1, -255, math.MinInt, math.MaxInt} {
			putsNoRecord(t, from(n))
		}
	}
}

func TestCountAndSeq(t *testing.T) {
	for _, r := range kinds() {
		count := func(n int) api.Record { return with(r, func(r *api.Record) { r.Count = n }) }
		seq := func(n int) api.Record { return with(r, func(r *api.Record) { r.Seq = n }) }
		for _, n := range []int{1, 2, 255, 256, 1 << 32, maxTime - 1, maxTime} {
			isRecord(t, count(n))
			isRecord(t, seq(n))
		}
		isRecord(t, seq(0))
		isNoRecord(t, count(0))
		for _, n := range noNums {
			putsNoRecord(t, count(n))
			putsNoRecord(t, seq(n))
		}
		for _, n := range highNums {
			isNoRecord(t, count(n))
			isNoRecord(t, seq(n))
		}
	}
}

func TestHeads(t *testing.T) {
	for _, r := range kinds() {
		of := func(s string) api.Record { return with(r, func(r *api.Record) { r.Head = s }) }
		for _, n := range []int{0, 1, 31, 33, 64, 288, 1<<16 - 1} {
			isNoRecord(t, of(strings.Repeat("h", n)))
		}
		// Its length in two bytes would be that of a head.
		putsNoRecord(t, of(strings.Repeat("h", 1<<16+32)))
		for _, c := range []string{"h", "\x00", "\xff"} {
			isRecord(t, of(strings.Repeat(c, 32)))
		}
	}
}

func TestKindsOfRecords(t *testing.T) {
	for _, r := range kinds() {
		of := func(n int) api.Record { return with(r, func(r *api.Record) { r.Kind = n }) }
		for _, n := range []int{0, 5, 6, 255} {
			isNoRecord(t, of(n))
		}
		for _, n := range []int{-1, 256, 256 + r.Kind, -256 + r.Kind, 1<<32 + r.Kind, math.MinInt, math.MaxInt} {
			putsNoRecord(t, of(n))
		}
		isRecord(t, of(r.Kind))
	}
	for n := range 256 {
		isNoRecord(t, api.Record{Kind: n})
	}
}

func TestOperationsOfRecords(t *testing.T) {
	of := func(o api.Op) api.Record { return with(opRecord(), func(r *api.Record) { r.Op = o }) }
	for _, o := range ops(3) {
		isRecord(t, of(o))
		// Of another one than From, and nothing else.
		for _, who := range []int{1, 2, 4, 5, 6} {
			other := o
			other.At.Who = who
			if o.Kind == api.OpCreate {
				other.Node.Who = who
			}
			if tree.Check(other) != api.OK {
				t.Error("not for one reason alone:", other)
			}
			isNoRecord(t, of(other))
			isRecord(t, with(of(other), func(r *api.Record) { r.From = who }))
		}
		// The node of an operation may be anyone's.
		if o.Kind != api.OpCreate {
			o.Node.Who = 5
			isRecord(t, of(o))
		}
	}
	for _, o := range noOps() {
		isNoRecord(t, of(o))
	}
	// Those that have no bytes.
	for _, o := range ops(3) {
		for _, n := range noNums {
			late := o
			late.At.Time = n
			putsNoRecord(t, of(late))
			late.Node.Time = n
			putsNoRecord(t, of(late))
			below := o
			below.Parent.Time = n
			putsNoRecord(t, of(below))
		}
		o.Value = strings.Repeat("v", 1<<16)
		putsNoRecord(t, of(o))
	}
}

// noOps are operations of the client 3 that have bytes, but may not be.
func noOps() []api.Op {
	var l []api.Op
	for _, o := range ops(3) {
		for _, change := range []func(o *api.Op){
			func(o *api.Op) { o.Kind = 0 },
			func(o *api.Op) { o.Kind = 6 },
			func(o *api.Op) { o.At.Time = 0 },
			func(o *api.Op) { o.Node = api.Stamp{} },
			func(o *api.Op) { o.Node.Who = 7 },
			func(o *api.Op) { o.Parent = stamp(1, 7) },
			func(o *api.Op) { o.Name = "a/b" },
			func(o *api.Op) { o.Value = strings.Repeat("v", 65) },
		} {
			other := o
			change(&other)
			l = append(l, other)
		}
		for _, who := range []int{1, 2, 4, 5, 6} {
			other := o
			other.At.Who = who
			if o.Kind == api.OpCreate {
				l = append(l, other)
			}
		}
		named, valued := o, o
		named.Name, valued.Value = "x", "x"
		if o.Kind != api.OpCreate && o.Kind != api.OpRename {
			l = append(l, named)
		}
		if o.Kind != api.OpSet {
			l = append(l, valued)
		}
	}
	return append(l, api.Op{}, api.Op{At: stamp(9, 3)})
}

func TestWhatARecOpDoesNotName(t *testing.T) {
	for _, o := range ops(3) {
		r := with(opRecord(), func(r *api.Record) { r.Op = o })
		isRecord(t, r)
		for _, n := range []int{1, 2, 3, 6, 7, 255} {
			isNoRecord(t, with(r, func(r *api.Record) { r.Who = n }))
		}
		for _, n := range []int{-1, 256, math.MinInt, math.MaxInt} {
			putsNoRecord(t, with(r, func(r *api.Record) { r.Who = n }))
		}
		for _, w := range [][]api.Wrap{wraps(1), wraps(3), wraps(1, 2, 3, 4, 5, 6), {{}}} {
			isNoRecord(t, with(r, func(r *api.Record) { r.Wraps = w }))
		}
		isRecord(t, with(r, func(r *api.Record) { r.Wraps = []api.Wrap{} }))
	}
}

func TestOperationsThatOthersDoNotName(t *testing.T) {
	for _, r := range kinds()[1:] {
		l := append(ops(1), ops(4)...)
		for _, change := range []func(o *api.Op){
			func(o *api.Op) { o.Kind = 1 },
			func(o *api.Op) { o.At.Time = 1 },
			func(o *api.Op) { o.At.Who = 1 },
			func(o *api.Op) { o.Node.Time = 1 },
			func(o *api.Op) { o.Node.Who = 1 },
			func(o *api.Op) { o.Parent.Time = 1 },
			func(o *api.Op) { o.Parent.Who = 1 },
			func(o *api.Op) { o.Name = "a" },
			func(o *api.Op) { o.Value = "\x00" },
		} {
			var o api.Op
			change(&o)
			l = append(l, o)
		}
		for _, o := range l {
			isNoRecord(t, with(r, func(r *api.Record) { r.Op = o }))
		}
		// The bytes that an empty operation would have are none, either.
		takesNoRecord(t, recordOfText(r, opBytes(api.Op{})))
		takesNoRecord(t, recordOfText(r, "\x00"))
		putsRecord(t, r, recordOfText(r, ""))
	}
}

func TestWho(t *testing.T) {
	of := func(r api.Record, n int) api.Record { return with(r, func(r *api.Record) { r.Who = n }) }
	for _, r := range []api.Record{addRecord(), removeRecord()} {
		for n := 1; n <= 6; n++ {
			isRecord(t, of(r, n))
		}
		for _, n := range []int{0, 7, 8, 255} {
			isNoRecord(t, of(r, n))
		}
		for _, n := range []int{-1, 256, 257, 1<<32 + 1, math.MinInt, math.MaxInt} {
			putsNoRecord(t, of(r, n))
		}
	}
	isRecord(t, of(rotateRecord(), 0))
	for _, n := range []int{1, 2, 3, 4, 5, 6, 7, 255} {
		isNoRecord(t, of(rotateRecord(), n))
	}
	for _, n := range []int{-1, 256, 1 << 32, math.MinInt, math.MaxInt} {
		putsNoRecord(t, of(rotateRecord(), n))
	}
}

func TestWraps(t *testing.T) {
	for _, r := range kinds()[1:] {
		of := func(l ...int) api.Record { return with(r, func(r *api.Record) { r.Wraps = wraps(l...) }) }
		for _, l := range [][]int{nil, {1}, {6}, {1, 2}, {1, 6}, {2, 4, 5}, {2, 3, 4, 5, 6}, {1, 2, 3, 4, 5, 6}} {
			isRecord(t, of(l...))
		}
		for _, l := range [][]int{
			{0}, {7}, {255}, {0, 1}, {6, 7}, {1, 2, 3, 4, 5, 7}, {0, 1, 2, 3, 4, 5}, {1, 0}, {0, 0},
			{1, 1}, {6, 6}, {2, 1}, {1, 3, 2}, {1, 2, 2, 3}, {6, 5, 4, 3, 2, 1}, {1, 2, 3, 4, 6, 5},
			{1, 2, 3, 4, 5, 6, 7}, {0, 1, 2, 3, 4, 5, 6}, {1, 2, 3, 4, 5, 6, 6}, {1, 1, 2, 3, 4, 5, 6}, {1, 2, 3, 4, 5, 6, 1},
		} {
			isNoRecord(t, of(l...))
		}
		for _, n := range []int{-1, 256, 257, 1<<32 + 1, math.MinInt, math.MaxInt} {
			putsNoRecord(t, of(n))
			putsNoRecord(t, of(1, n))
			putsNoRecord(t, of(n, 6))
		}
		isNoRecord(t, of(slices.Repeat([]int{6}, 255)...))
		// How many they are, in a byte, would be none.
		putsNoRecord(t, of(slices.Repeat([]int{6}, 256)...))
	}
}

func TestTextsOfWraps(t *testing.T) {
	for _, r := range kinds()[1:] {
		for place := range 3 {
			of := func(s string) api.Record {
				return with(r, func(r *api.Record) {
					r.Wraps = wraps(1, 2, 6)
					r.Wraps[place].Text = s
				})
			}
			for _, n := range []int{0, 1, 32, 47, 49, 304, 20000} {
				isNoRecord(t, of(strings.Repeat("t", n)))
			}
			putsNoRecord(t, of(strings.Repeat("t", 1<<16+48)))
			for _, c := range []string{"t", "\x00", "\xff"} {
				isRecord(t, of(strings.Repeat(c, 48)))
			}
		}
	}
}

func TestBeginningsOfRecords(t *testing.T) {
	for _, r := range records() {
		b := recordBytes(r)
		for n := range len(b) {
			takesNoRecord(t, b[:n])
			takesNoRecord(t, b[n+1:])
		}
		for _, more := range []string{"\x00", "\x01", "a", "\x00\x00", b, strings.Repeat("\x00", 1<<16)} {
			takesNoRecord(t, b+more)
		}
		takesNoRecord(t, "\x00"+b)
	}
	for n := range 300 {
		takesNoRecord(t, strings.Repeat("\x00", n))
		takesNoRecord(t, strings.Repeat("\xff", n))
	}
}

func TestNumbersAboveMaxTimeInRecords(t *testing.T) {
	for _, r := range kinds() {
		b := recordBytes(r)
		for _, place := range []int{2, 8} {
			for _, c := range []string{"\x01", "\x80", "\xff"} {
				takesNoRecord(t, b[:place]+c+b[place+1:])
			}
		}
	}
	// Those of an operation: behind the kind of it, each at its stamps.
	b := recordBytes(opRecord())
	for _, place := range []int{51, 58, 65} {
		takesNoRecord(t, b[:place]+"\x01"+b[place+1:])
	}
}

func TestTextsThatAreNoOperation(t *testing.T) {
	good := opBytes(ops(3)[0])
	putsRecord(t, opRecord(), recordOfText(opRecord(), good))
	l := []string{"", "\x00", "a", good + "\x00", good + good, "\x00" + good, strings.Repeat("\x00", 26), strings.Repeat("\x00", 1<<16-1), strings.Repeat("\xff", 40)}
	for n := range len(good) {
		l = append(l, good[:n], good[n+1:])
	}
	for _, o := range noOps() {
		l = append(l, opBytes(o))
	}
	for _, s := range l {
		takesNoRecord(t, recordOfText(opRecord(), s))
		if s != "" {
			takesNoRecord(t, recordOfText(addRecord(), s))
			takesNoRecord(t, recordOfText(rotateRecord(), s))
		}
	}
}

// How many wraps there are, told otherwise than they are.
func TestCountsOfWraps(t *testing.T) {
	for _, n := range []int{0, 1, 2, 5, 6} {
		r := with(rotateRecord(), func(r *api.Record) { r.Wraps = wraps([]int{1, 2, 3, 4, 5, 6}[:n]...) })
		b := []byte(recordBytes(r))
		for c := range 256 {
			b[51] = byte(c)
			if c != n {
				takesNoRecord(t, string(b))
			}
		}
		b[51] = byte(n)
		putsRecord(t, r, string(b))
	}
}

// takenRecord holds that bytes are taken as the other way tells, and tells whether they were.
func takenRecord(t *testing.T, b string) bool {
	t.Helper()
	want, may := hasRecord(b)
	if !may {
		takesNoRecord(t, b)
		return false
	}
	putsRecord(t, want, b)
	return true
}

func TestTurnedBytesOfRecords(t *testing.T) {
	yes, no := 0, 0
	for _, r := range kinds() {
		b := []byte(recordBytes(r))
		for i := range b {
			was := b[i]
			for c := range 256 {
				b[i] = byte(c)
				if takenRecord(t, string(b)) {
					yes++
				} else {
					no++
				}
			}
			b[i] = was
		}
	}
	if yes < 10000 || no < 2000 {
		t.Error("too few of one sort:", yes, no)
	}
}

// Wi2.

func TestExample(t *testing.T) {
	want := "\x07\x00\x00\x00\x00\x00\x03" + strings.Repeat("\x00", 27)
	b, e := Put(api.Frame{Kind: api.FrameAsk, Group: 3})
	if len(b) != 34 || e != api.OK {
		t.Fatal(len(b), e)
	}
	for i := range 34 {
		if b[i] != want[i] {
			t.Errorf("the byte %d is %d, not %d", i, b[i], want[i])
		}
	}
	if f, e := Take(want); !sameFrame(f, api.Frame{Kind: api.FrameAsk, Group: 3}) || e != api.OK {
		t.Error(f, e)
	}
}

func TestFramesByteForByte(t *testing.T) {
	const none, group = "000000000000", "000000000102"
	for i, want := range []string{
		"01" + group + none + "000000000003" + none + none + "0004626c6f62" + "00",
		"02" + group + "000000000004" + none + none + none + "0000" + "00",
		"03" + group + "000000000004" + none + "000000000005" + none + "0000" + "00",
		"04" + group + none + none + none + none + "0000" + "02" + "000000000006" + "000000000003" + "00036f6e65" + "000000000007" + "000000000004" + "000374776f",
		"05" + group + "000000000004" + "000000000003" + none + none + "0004626c6f62" + "00",
		"06" + group + "000000000004" + none + none + none + "0000" + "00",
		"07" + group + none + none + none + none + "0000" + "00",
		"08" + group + "000000000004" + "000000000003" + none + none + "0004626c6f62" + "00",
		"09" + group + none + none + none + "0000000000be" + "0000" + "00",
	} {
		b, err := hex.DecodeString(want)
		if err != nil {
			t.Fatal(err)
		}
		puts(t, full()[i], string(b))
		isFrame(t, full()[i])
	}
}

func TestFramesThatMayBe(t *testing.T) {
	for _, f := range frames() {
		isFrame(t, f)
	}
}

func TestGroups(t *testing.T) {
	for _, f := range full() {
		for _, n := range []int{0, 1, 255, 256, 1 << 32, maxTime - 1, maxTime} {
			f.Group = n
			isFrame(t, f)
		}
		for _, n := range noNums {
			f.Group = n
			putsNot(t, f)
		}
		for _, n := range highNums {
			f.Group = n
			isNone(t, f)
		}
	}
}

// names tells whether a kind names a part.
func names(kind int, letter string) bool { return strings.Contains(named[kind], letter) }

func TestNumbersOfFrames(t *testing.T) {
	parts := []struct {
		letter string
		of     func(f *api.Frame) *int
	}{
		{"s", func(f *api.Frame) *int { return &f.Seq }}, {"e", func(f *api.Frame) *int { return &f.Epoch }}, {"m", func(f *api.Frame) *int { return &f.Max }},
	}
	asked := 0
	for _, f := range full() {
		for _, p := range parts {
			f := f
			if !names(f.Kind, p.letter) {
				continue
			}
			asked++
			for _, n := range []int{0, 1, 255, 256, maxTime - 1, maxTime} {
				*p.of(&f) = n
				isFrame(t, f)
			}
			for _, n := range noNums {
				*p.of(&f) = n
				putsNot(t, f)
			}
			for _, n := range highNums {
				*p.of(&f) = n
				isNone(t, f)
			}
		}
	}
	if asked != 9 {
		t.Error("asked:", asked)
	}
}

func TestErrorsOfFrames(t *testing.T) {
	for _, n := range []api.Errno{0, 1, 2, 190, 255, 256, 998, 999} {
		isFrame(t, api.Frame{Kind: api.FrameError, Group: 3, Err: n})
	}
	for _, n := range []api.Errno{1000, 1001, 1 << 16, 1<<32 + 1, maxTime, maxTime + 1, 1<<48 - 1} {
		isNone(t, api.Frame{Kind: api.FrameError, Group: 3, Err: n})
	}
	for _, n := range []api.Errno{-1, -2, math.MinInt, math.MaxInt, 1 << 48, 1<<48 + 1} {
		putsNot(t, api.Frame{Kind: api.FrameError, Group: 3, Err: n})
	}
}

func TestBlobs(t *testing.T) {
	for _, kind := range []int{api.FrameAppend, api.FrameKeep, api.FrameSnap} {
		of := func(n int) api.Frame { return api.Frame{Kind: kind, Group: 3, Blob: strings.Repeat("b", n)} }
		for _, n := range []int{0, 1, 255, 256, 16400, 19999, 20000} {
			isFrame(t, of(n))
		}
		for _, n := range []int{20001, 20002, 1<<16 - 35, 1<<16 - 34, 1<<16 - 33, 1<<16 - 1} {
			isNone(t, of(n))
		}
		// Their lengths in two bytes would be those of others.
		putsNot(t, of(1<<16))
		putsNot(t, of(1<<16+1))
		putsNot(t, of(1<<20))
	}
}

func TestItems(t *testing.T) {
	of := func(l ...api.Item) api.Frame { return api.Frame{Kind: api.FrameGiven, Group: 3, Items: l} }
	for n := range 33 {
		isFrame(t, of(items(n, 5)...))
	}
	for _, n := range []int{33, 34, 64, 254, 255} {
		isNone(t, of(items(n, 0)...))
		isNone(t, of(items(n, 5)...))
	}
	for _, n := range []int{256, 257, 288, 5000} {
		putsNot(t, of(items(n, 0)...))
	}
	// They need neither rise nor differ.
	isFrame(t, of(item(5, 5, 1), item(4, 9, 2), item(5, 5, 1)))
	for _, place := range []int{0, 1, 31} {
		change := func(c func(i *api.Item)) api.Frame {
			f := of(items(32, 3)...)
			c(&f.Items[place])
			return f
		}
		for _, n := range []int{0, 1, 256, maxTime - 1, maxTime} {
			isFrame(t, change(func(i *api.Item) { i.Seq = n }))
			isFrame(t, change(func(i *api.Item) { i.Epoch = n }))
		}
		for _, n := range noNums {
			putsNot(t, change(func(i *api.Item) { i.Seq = n }))
			putsNot(t, change(func(i *api.Item) { i.Epoch = n }))
		}
		for _, n := range highNums {
			isNone(t, change(func(i *api.Item) { i.Seq = n }))
			isNone(t, change(func(i *api.Item) { i.Epoch = n }))
		}
		for _, n := range []int{0, 1, 19999, 20000} {
			isFrame(t, change(func(i *api.Item) { i.Blob = strings.Repeat("z", n) }))
		}
		for _, n := range []int{20001, 20002, 30000, 1<<16 - 1} {
			isNone(t, change(func(i *api.Item) { i.Blob = strings.Repeat("z", n) }))
		}
		putsNot(t, change(func(i *api.Item) { i.Blob = strings.Repeat("z", 1<<16) }))
		putsNot(t, change(func(i *api.Item) { i.Blob = strings.Repeat("z", 1<<16+3) }))
	}
}

func TestKindsOfFrames(t *testing.T) {
	for kind := range 256 {
		if kind >= api.FrameAppend && kind <= api.FrameError {
			isFrame(t, api.Frame{Kind: kind, Group: 3})
			continue
		}
		isNone(t, api.Frame{Kind: kind})
		isNone(t, api.Frame{Kind: kind, Group: 3})
	}
	for _, f := range full() {
		for _, n := range []int{-1, 256, 256 + f.Kind, -256 + f.Kind, 1<<32 + f.Kind, math.MinInt, math.MaxInt} {
			other := f
			other.Kind = n
			putsNot(t, other)
		}
		for _, n := range []int{0, 10, 255} {
			other := f
			other.Kind = n
			isNone(t, other)
		}
	}
}

// What each kind names, as package api says it, in words.
func TestWhatKindsName(t *testing.T) {
	want := []struct {
		kind  int
		names string
	}{
		{api.FrameAppend, "eb"}, {api.FrameTaken, "s"}, {api.FrameFetch, "sm"}, {api.FrameGiven, "i"}, {api.FrameKeep, "seb"},
		{api.FrameKept, "s"}, {api.FrameAsk, ""}, {api.FrameSnap, "seb"}, {api.FrameError, "r"},
	}
	for _, w := range want {
		for _, p := range frameParts() {
			for _, fill := range p.fill {
				// Alone, and beside all that it names.
				bare, whole := api.Frame{Kind: w.kind, Group: 3}, full()[w.kind-1]
				fill(&bare)
				fill(&whole)
				if strings.Contains(w.names, p.letter) {
					isFrame(t, bare)
					isFrame(t, whole)
				} else {
					isNone(t, bare)
					isNone(t, whole)
				}
			}
		}
	}
}

// Numbers out of their bounds in parts that are not named are refused as well.
func TestWildPartsThatAreNotNamed(t *testing.T) {
	for kind := api.FrameAppend; kind <= api.FrameError; kind++ {
		for _, n := range noNums {
			putsNot(t, api.Frame{Kind: kind, Seq: n})
			putsNot(t, api.Frame{Kind: kind, Epoch: n})
			putsNot(t, api.Frame{Kind: kind, Max: n})
			putsNot(t, api.Frame{Kind: kind, Err: api.Errno(n)})
		}
	}
}

// Four items, whose blobs let a frame have so many bytes.
func frameOf(n int) api.Frame {
	f := api.Frame{Kind: api.FrameGiven, Group: 3, Items: items(3, blob)}
	return api.Frame{Kind: api.FrameGiven, Group: 3, Items: append(f.Items, item(9, 9, n-34-4*14-3*blob))}
}

func TestTheMostBytesOfAFrame(t *testing.T) {
	for _, n := range []int{text - 2, text - 1, text} {
		f := frameOf(n)
		if len(frameBytes(f)) != n {
			t.Fatal(len(frameBytes(f)), n)
		}
		isFrame(t, f)
	}
	for _, n := range []int{text + 1, text + 2, text + 1000, 34 + 4*14 + 4*blob} {
		isNone(t, frameOf(n))
	}
	isNone(t, api.Frame{Kind: api.FrameGiven, Items: items(32, blob)})
	isNone(t, api.Frame{Kind: api.FrameGiven, Items: items(32, 2034)})
	isFrame(t, api.Frame{Kind: api.FrameGiven, Items: items(32, 2032)})
	// Bytes of just so many, but with one more behind them.
	takesNot(t, frameBytes(frameOf(text-1))+"\x00")
	takesNot(t, frameBytes(frameOf(text))+"\x00")
}

func TestBeginningsOfFrames(t *testing.T) {
	for _, f := range append(full(), api.Frame{Kind: api.FrameAsk}, api.Frame{Kind: api.FrameGiven, Items: items(32, 5)}) {
		b := frameBytes(f)
		for n := range len(b) {
			takesNot(t, b[:n])
			takesNot(t, b[n+1:])
		}
		for _, more := range []string{"\x00", "\x01", "a", "\x00\x00", b, strings.Repeat("\x00", 1<<16)} {
			takesNot(t, b+more)
		}
		takesNot(t, "\x00"+b)
	}
	for n := range 300 {
		takesNot(t, strings.Repeat("\x00", n))
		takesNot(t, strings.Repeat("\xff", n))
	}
	takesNot(t, strings.Repeat("\x00", 1<<20))
	takesNot(t, strings.Repeat("\x04", 1<<20))
}

func TestNumbersAboveMaxTimeInFrames(t *testing.T) {
	for _, f := range full() {
		b := frameBytes(f)
		places := []int{1, 7, 13, 19, 25}
		for i := range f.Items {
			places = append(places, 34+i*17, 40+i*17)
		}
		for _, place := range places {
			for _, c := range []string{"\x01", "\x80", "\xff"} {
				takesNot(t, b[:place]+c+b[place+1:])
			}
		}
	}
}

// How many items there are, told otherwise than they are.
func TestCountsOfItems(t *testing.T) {
	for _, n := range []int{0, 1, 2, 31, 32} {
		f := api.Frame{Kind: api.FrameGiven, Items: items(n, 4)}
		b := []byte(frameBytes(f))
		for c := range 256 {
			b[33] = byte(c)
			if c != n {
				takesNot(t, string(b))
			}
		}
		b[33] = byte(n)
		puts(t, f, string(b))
	}
}

// taken holds that bytes are taken as the other way tells, and tells whether they were.
func taken(t *testing.T, b string) bool {
	t.Helper()
	want, may := hasFrame(b)
	if !may {
		takesNot(t, b)
		return false
	}
	puts(t, want, b)
	return true
}

func TestTurnedBytesOfFrames(t *testing.T) {
	yes, no := 0, 0
	for _, f := range full() {
		b := []byte(frameBytes(f))
		for i := range b {
			was := b[i]
			for c := range 256 {
				b[i] = byte(c)
				if taken(t, string(b)) {
					yes++
				} else {
					no++
				}
			}
			b[i] = was
		}
	}
	if yes < 10000 || no < 10000 {
		t.Error("too few of one sort:", yes, no)
	}
}

// Wi3.

// drawnText are drawn bytes, so many.
func drawnText(r *rand.Rand, n int) string {
	b := make([]byte, n)
	r.Read(b)
	return string(b)
}

// drawnNum is a drawn number, now and then one at an edge.
func drawnNum(r *rand.Rand) int {
	if r.Intn(60) == 0 {
		return wild[r.Intn(len(wild))]
	}
	return 1 + r.Intn(1<<r.Intn(41))%maxTime
}

// drawnRecord is a drawn record: mostly one that may be.
func drawnRecord(r *rand.Rand) api.Record {
	x := api.Record{Kind: 1 + r.Intn(4), From: 1 + r.Intn(6), Count: drawnNum(r), Seq: drawnNum(r), Head: drawnText(r, 32)}
	if r.Intn(20) == 0 {
		x.Head = drawnText(r, 30+r.Intn(5))
	}
	if x.Kind == api.RecOp {
		x.Op = ops(x.From)[r.Intn(5)]
		x.Op.At.Time = drawnNum(r)
		if x.Op.Kind == api.OpCreate {
			x.Op.Node = x.Op.At
		}
		return x
	}
	if x.Kind != api.RecRotate || r.Intn(20) == 0 {
		x.Who = 1 + r.Intn(6)
	}
	for who := 1; who <= 6; who++ {
		if r.Intn(2) == 0 {
			x.Wraps = append(x.Wraps, api.Wrap{Who: who, Text: drawnText(r, 48)})
		}
	}
	if n := len(x.Wraps); n > 1 && r.Intn(20) == 0 {
		x.Wraps[0], x.Wraps[n-1] = x.Wraps[n-1], x.Wraps[0]
	}
	return x
}

// drawnFrame is a drawn frame: mostly one that may be.
func drawnFrame(r *rand.Rand) api.Frame {
	x := api.Frame{Kind: 1 + r.Intn(9), Group: drawnNum(r)}
	has := func(letter string) bool { return names(x.Kind, letter) != (r.Intn(60) == 0) }
	if has("s") {
		x.Seq = drawnNum(r)
	}
	if has("e") {
		x.Epoch = drawnNum(r)
	}
	if has("m") {
		x.Max = drawnNum(r)
	}
	if has("b") {
		x.Blob = drawnText(r, r.Intn(500))
	}
	if has("r") {
		x.Err = api.Errno(r.Intn(1050))
	}
	if has("i") {
		for range r.Intn(34) {
			x.Items = append(x.Items, api.Item{Seq: 1 + r.Intn(1<<39), Epoch: 1 + r.Intn(1<<20), Blob: drawnText(r, r.Intn(90))})
		}
		if len(x.Items) > 0 {
			x.Items[0].Seq = drawnNum(r)
		}
	}
	return x
}

func TestDrawnRecords(t *testing.T) {
	r := rand.New(rand.NewSource(191))
	yes := 0
	for range 20000 {
		x := drawnRecord(r)
		if !mayRecord(x) {
			putsNoRecord(t, x)
			continue
		}
		yes++
		b := recordBytes(x)
		putsRecord(t, x, b)
		turned := []byte(b)
		turned[r.Intn(len(turned))] ^= byte(1 << r.Intn(8))
		takenRecord(t, string(turned))
		takenRecord(t, b[:r.Intn(len(b))]+drawnText(r, r.Intn(4)))
	}
	if yes < 10000 || yes > 19500 {
		t.Error("may be:", yes)
	}
}

func TestDrawnFrames(t *testing.T) {
	r := rand.New(rand.NewSource(192))
	yes := 0
	for range 20000 {
		x := drawnFrame(r)
		if !mayFrame(x) {
			putsNot(t, x)
			continue
		}
		yes++
		b := frameBytes(x)
		puts(t, x, b)
		turned := []byte(b)
		turned[r.Intn(len(turned))] ^= byte(1 << r.Intn(8))
		taken(t, string(turned))
		taken(t, b[:r.Intn(len(b))]+drawnText(r, r.Intn(4)))
	}
	if yes < 10000 || yes > 19500 {
		t.Error("may be:", yes)
	}
}

func TestDrawnBytes(t *testing.T) {
	r := rand.New(rand.NewSource(193))
	for range 20000 {
		b := drawnText(r, r.Intn(120))
		takenRecord(t, b)
		taken(t, b)
		// Few bytes that differ: so more of them come through.
		few := []byte(b)
		for i := range few {
			few[i] = few[i] % 3 * (few[i] >> 7)
		}
		takenRecord(t, string(few))
		taken(t, string(few))
	}
}

// Bytes are of one record, of one frame, alone: no two that differ have the same.
func TestBytesOfOneAlone(t *testing.T) {
	recordOf, frameOf := map[string]api.Record{}, map[string]api.Frame{}
	for _, r := range neighbours() {
		b, e := PutRecord(r)
		if was, there := recordOf[b]; e != api.OK || there && !sameRecord(was, r) {
			t.Errorf("%v and %v: %x %d", was, r, b, e)
		}
		recordOf[b] = r
	}
	for _, f := range append(frames(), near()...) {
		b, e := Put(f)
		if was, there := frameOf[b]; e != api.OK || there && !sameFrame(was, f) {
			t.Errorf("%s and %s: %.100x %d", short(was), short(f), b, e)
		}
		frameOf[b] = f
	}
	if len(recordOf) < 25 || len(frameOf) < 35 {
		t.Error("too few:", len(recordOf), len(frameOf))
	}
}

// neighbours are records that differ in one part.
func neighbours() []api.Record {
	l := records()
	for _, r := range kinds() {
		l = append(l,
			with(r, func(r *api.Record) { r.Count++ }),
			with(r, func(r *api.Record) { r.Seq++ }),
			with(r, func(r *api.Record) { r.Head = "i" + r.Head[1:] }))
		if r.Kind != api.RecOp {
			l = append(l,
				with(r, func(r *api.Record) { r.From = 2 }),
				with(r, func(r *api.Record) { r.Wraps = r.Wraps[:1] }),
				with(r, func(r *api.Record) { r.Wraps = []api.Wrap{r.Wraps[0], {Who: 6, Text: strings.Repeat("z", 48)}} }))
		}
	}
	return append(l, with(addRecord(), func(r *api.Record) { r.Kind = api.RecRemove }), with(addRecord(), func(r *api.Record) { r.Who = 5 }))
}

// near are frames of which a byte may stand in one part or in the next one.
func near() []api.Frame {
	given := func(l ...api.Item) api.Frame { return api.Frame{Kind: api.FrameGiven, Items: l} }
	return []api.Frame{
		given(api.Item{Blob: "ab"}, api.Item{Blob: "c"}), given(api.Item{Blob: "a"}, api.Item{Blob: "bc"}), given(api.Item{Blob: "abc"}), given(api.Item{Blob: "abc"}, api.Item{}),
		given(api.Item{Seq: 1}), given(api.Item{Epoch: 1}), given(api.Item{Seq: 1 << 8}), given(api.Item{Blob: "\x00"}), given(api.Item{}, api.Item{Seq: 1}), given(api.Item{Seq: 1}, api.Item{}),
		{Kind: api.FrameFetch, Seq: 1}, {Kind: api.FrameFetch, Max: 1}, {Kind: api.FrameKeep, Seq: 1}, {Kind: api.FrameKeep, Epoch: 1}, {Kind: api.FrameKeep, Blob: "\x00"},
		{Kind: api.FrameSnap, Seq: 1}, {Kind: api.FrameError, Err: 1}, {Kind: api.FrameError, Err: 256},
	}
}

// R1 to R4.

func TestWildRecordsEnd(t *testing.T) {
	r := rand.New(rand.NewSource(194))
	some := func() int { return wild[r.Intn(len(wild))] }
	texts := []string{"", "a", head, head + "x", strings.Repeat("w", 48), strings.Repeat("x", 1<<16+32)}
	say := func() string { return texts[r.Intn(len(texts))] }
	for range 20000 {
		x := api.Record{Kind: some(), From: some(), Count: some(), Seq: some(), Head: say(), Who: some()}
		if r.Intn(2) == 0 {
			x.Op = api.Op{Kind: some(), At: stamp(some(), some()), Node: stamp(some(), some()), Parent: stamp(some(), some()), Name: say(), Value: say()}
		}
		for range r.Intn(3) {
			x.Wraps = append(x.Wraps, api.Wrap{Who: some(), Text: say()})
		}
		if mayRecord(x) {
			isRecord(t, x)
		} else {
			putsNoRecord(t, x)
		}
	}
	putsNoRecord(t, api.Record{})
	long := with(rotateRecord(), func(r *api.Record) { r.Wraps = slices.Repeat(wraps(1, 2, 3, 4, 5, 6), 100000) })
	putsNoRecord(t, long)
}

func TestWildFramesEnd(t *testing.T) {
	r := rand.New(rand.NewSource(195))
	some := func() int { return wild[r.Intn(len(wild))] }
	// Mostly nothing, as most kinds name little.
	few := func() int {
		if r.Intn(3) > 0 {
			return 0
		}
		return some()
	}
	texts := []string{"", "", "a", strings.Repeat("x", blob), strings.Repeat("x", blob+1), strings.Repeat("x", 1<<16+1)}
	say := func() string { return texts[r.Intn(len(texts))] }
	yes := 0
	for range 10000 {
		x := api.Frame{Kind: some(), Group: some(), Seq: few(), Epoch: few(), Max: few(), Err: api.Errno(few()), Blob: say()}
		for range max(0, r.Intn(5)-2) {
			x.Items = append(x.Items, api.Item{Seq: some(), Epoch: some(), Blob: say()})
		}
		if mayFrame(x) {
			yes++
			isFrame(t, x)
		} else {
			putsNot(t, x)
		}
	}
	if yes < 20 {
		t.Error("may be:", yes)
	}
	putsNot(t, api.Frame{})
	putsNot(t, api.Frame{Kind: api.FrameGiven, Items: make([]api.Item, 1<<20)})
}

func TestWhatIsHandedInStands(t *testing.T) {
	// Each list with room behind its end, in which stands what would be taken as well.
	w := append(wraps(1, 4), wraps(6)...)
	i := append(items(2, 3), item(9, 9, 9))
	wasW, wasI := slices.Clone(w), slices.Clone(i)
	r, f := with(addRecord(), func(r *api.Record) { r.Wraps = w[:2] }), api.Frame{Kind: api.FrameGiven, Group: 3, Items: i[:2]}
	for range 2 {
		putsRecord(t, r, recordBytes(addRecord()))
		puts(t, f, frameBytes(api.Frame{Kind: api.FrameGiven, Group: 3, Items: items(2, 3)}))
	}
	// Refused ones, too.
	putsNoRecord(t, with(r, func(r *api.Record) { r.Who = 0 }))
	f.Seq = 1
	putsNot(t, f)
	if !slices.Equal(w, wasW) || !slices.Equal(i, wasI) {
		t.Error("changed:", w, i)
	}
	// What may not be in the room behind the end is nobody's matter.
	w[2], i[2] = api.Wrap{Who: -1}, api.Item{Seq: -1}
	putsRecord(t, r, recordBytes(addRecord()))
	f.Seq = 0
	isFrame(t, f)
}

func TestWhatIsHandedOutIsNew(t *testing.T) {
	b, c := recordBytes(removeRecord()), frameBytes(full()[3])
	one, _ := TakeRecord(b)
	two, _ := TakeRecord(b)
	first, _ := Take(c)
	second, _ := Take(c)
	// Written over up to the end of their room.
	for k := range one.Wraps[:cap(one.Wraps)] {
		one.Wraps[:cap(one.Wraps)][k] = api.Wrap{Who: 7, Text: "z"}
	}
	for k := range first.Items[:cap(first.Items)] {
		first.Items[:cap(first.Items)][k] = item(7, 7, 7)
	}
	if !sameRecord(two, removeRecord()) || !sameFrame(second, full()[3]) {
		t.Error("changed:", two, second)
	}
	putsRecord(t, removeRecord(), b)
	puts(t, full()[3], c)
	// What was put is not bound to what was handed in.
	r, f := removeRecord(), full()[3]
	s, _ := PutRecord(r)
	u, _ := Put(f)
	r.Wraps[0].Text, f.Items[0].Blob = "z", "z"
	if s != b || u != c {
		t.Errorf("%x, %x", s, u)
	}
}

func TestTheSameOnceMore(t *testing.T) {
	r := rand.New(rand.NewSource(196))
	for range 500 {
		x, y := drawnRecord(r), drawnFrame(r)
		b, e := PutRecord(x)
		c, f := Put(y)
		putsNoRecord(t, api.Record{})
		putsNot(t, api.Frame{})
		takesNoRecord(t, b+"\x00")
		takesNot(t, c+"\x00")
		if s, again := PutRecord(x); s != b || again != e {
			t.Errorf("%v: %x, %x", x, b, s)
		}
		if s, again := Put(y); s != c || again != f {
			t.Errorf("%v: %x, %x", y, c, s)
		}
	}
}
