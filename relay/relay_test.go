package relay

import (
	"fmt"
	"math"
	"math/rand"
	"slices"
	"strings"
	"sync"
	"testing"
	"unsafe"

	"samphire/api"
	"samphire/wire"
)

const (
	maxTime  = 1<<40 - 1
	maxQuota = 1 << 20
	maxLog   = 1024
	// The bytes of a frame's longest Blob, and of all Blobs of one answer.
	longest  = 20000
	together = 40000
	// The group of the relays here, where a test does not speak of groups.
	home = 3
)

// text is a text of n bytes, the same one in each run.
func text(n int) string { return drawn(rand.New(rand.NewSource(int64(n))), n) }

// drawn is a text of n bytes that a test draws.
func drawn(draw *rand.Rand, n int) string {
	b := make([]byte, n)
	draw.Read(b)
	return string(b)
}

// short is a thing as a test tells it: some are very long.
func short(x any) string { return fmt.Sprintf("%.300s", fmt.Sprintf("%#v", x)) }

// The frames that go to a relay, and its answers.

func record(epoch int, blob string) api.Frame {
	return api.Frame{Kind: api.FrameAppend, Group: home, Epoch: epoch, Blob: blob}
}

func fetch(seq, most int) api.Frame {
	return api.Frame{Kind: api.FrameFetch, Group: home, Seq: seq, Max: most}
}

func keep(seq, epoch int, blob string) api.Frame {
	return api.Frame{Kind: api.FrameKeep, Group: home, Seq: seq, Epoch: epoch, Blob: blob}
}

func ask() api.Frame { return api.Frame{Kind: api.FrameAsk, Group: home} }

func taken(seq int) api.Frame { return api.Frame{Kind: api.FrameTaken, Group: home, Seq: seq} }

func given(l ...api.Item) api.Frame {
	return api.Frame{Kind: api.FrameGiven, Group: home, Items: l}
}

func kept(seq int) api.Frame { return api.Frame{Kind: api.FrameKept, Group: home, Seq: seq} }

func snapshot(seq, epoch int, blob string) api.Frame {
	return api.Frame{Kind: api.FrameSnap, Group: home, Seq: seq, Epoch: epoch, Blob: blob}
}

func fault(e api.Errno) api.Frame { return api.Frame{Kind: api.FrameError, Group: home, Err: e} }

// of is a frame, of another group.
func of(group int, f api.Frame) api.Frame {
	f.Group = group
	return f
}

// goes are frames of the kinds that go to a relay, and comes one of each kind that goes to none.
func goes() []api.Frame {
	return []api.Frame{record(1, "x"), fetch(1, 9), keep(1, 1, "x"), ask()}
}

func comes() []api.Frame {
	return []api.Frame{taken(1), given(), given(api.Item{Seq: 1, Epoch: 1, Blob: "x"}), kept(1), snapshot(1, 1, "x"), fault(api.OK), fault(api.ErrArg)}
}

func relayOf(t *testing.T, group, quota int) *Relay {
	t.Helper()
	r, e := New(group, quota)
	if r == nil || e != api.OK {
		t.Fatalf("New %d, %d: %d", group, quota, e)
	}
	return r
}

// asBytes are a frame's bytes.
func asBytes(t *testing.T, f api.Frame) string {
	t.Helper()
	s, e := wire.Put(f)
	if e != api.OK {
		t.Fatalf("wire.Put %s: %d", short(f), e)
	}
	return s
}

// heard is the frame that a relay answers to a text.
func heard(t *testing.T, r *Relay, s string) api.Frame {
	t.Helper()
	a := r.Hear(s)
	f, e := wire.Take(a)
	if e != api.OK {
		t.Fatalf("Hear %.80x: %.80x, which is no frame", s, a)
	}
	return f
}

// answers holds what a relay answers to a frame: to the byte, as frames of other bytes are others.
func answers(t *testing.T, r *Relay, f, want api.Frame) {
	t.Helper()
	if a := r.Hear(asBytes(t, f)); a != asBytes(t, want) {
		got, e := wire.Take(a)
		t.Errorf("Hear %s: %s (%d), not %s", short(f), short(got), e, short(want))
	}
}

// state is all that a relay tells.
type state struct {
	last, base, bytes int
	items             []api.Item
	snap              string
}

func stateOf(t *testing.T, r *Relay) state {
	t.Helper()
	return state{r.Last(), r.Base(), r.Bytes(), r.Items(), r.Hear(asBytes(t, ask()))}
}

func (s state) is(x state) bool {
	return s.last == x.last && s.base == x.base && s.bytes == x.bytes && slices.Equal(s.items, x.items) && s.snap == x.snap
}

// refuses holds that a frame is refused so, that this has changed nothing, and that it is so again.
func refuses(t *testing.T, r *Relay, f api.Frame, want api.Errno) {
	t.Helper()
	was := stateOf(t, r)
	for range 2 {
		answers(t, r, f, fault(want))
		if is := stateOf(t, r); !is.is(was) {
			t.Errorf("Hear %s: changed to %s, it was %s", short(f), short(is), short(was))
		}
	}
}

// has holds what a relay has: twice, as asking changes nothing.
func has(t *testing.T, r *Relay, base, last, bytes int, l ...api.Item) {
	t.Helper()
	for range 2 {
		if r.Base() != base || r.Last() != last || r.Bytes() != bytes {
			t.Errorf("Base %d, Last %d, Bytes %d, not %d, %d, %d", r.Base(), r.Last(), r.Bytes(), base, last, bytes)
		}
		if got := r.Items(); !slices.Equal(got, l) {
			t.Errorf("Items %s, not %s", short(got), short(l))
		}
	}
}

// filled is a relay to which these Blobs came, in the epoch 1, and what it has then.
func filled(t *testing.T, quota int, blobs ...string) (*Relay, []api.Item) {
	t.Helper()
	r := relayOf(t, home, quota)
	var l []api.Item
	for k, b := range blobs {
		answers(t, r, record(1, b), taken(k+1))
		l = append(l, api.Item{Seq: k + 1, Epoch: 1, Blob: b})
	}
	return r, l
}

// numbered are so many Blobs of six bytes, of which no two are one.
func numbered(n int) []string {
	var l []string
	for k := range n {
		l = append(l, fmt.Sprintf("%06d", k))
	}
	return l
}

// book is, by hand, what a relay must have: all that ever came, and how far it is gone.
type book struct {
	group, quota int
	all          []api.Item
	base         int
	snap         *api.Frame
}

// since are the records behind a number.
func (b *book) since(seq int) []api.Item {
	var l []api.Item
	for _, i := range b.all {
		if i.Seq > seq {
			l = append(l, i)
		}
	}
	return l
}

func bytesOf(l []api.Item) int {
	n := 0
	for _, i := range l {
		n += len(i.Blob)
	}
	return n
}

func (b *book) bytes() int {
	n := bytesOf(b.since(b.base))
	if b.snap != nil {
		n += len(b.snap.Blob)
	}
	return n
}

// hear is the answer to a text, by the words of the chapter.
func (b *book) hear(s string) api.Frame {
	f, e := wire.Take(s)
	switch {
	case e != api.OK:
		return of(b.group, fault(api.ErrWire))
	case f.Group != b.group:
		return of(b.group, fault(api.ErrArg))
	case f.Kind == api.FrameAppend:
		return of(b.group, b.record(f))
	case f.Kind == api.FrameFetch:
		return of(b.group, b.fetch(f))
	case f.Kind == api.FrameKeep:
		return of(b.group, b.keep(f))
	case f.Kind == api.FrameAsk && b.snap != nil:
		return of(b.group, *b.snap)
	case f.Kind == api.FrameAsk:
		return of(b.group, fault(api.ErrNone))
	}
	return of(b.group, fault(api.ErrArg))
}

func (b *book) record(f api.Frame) api.Frame {
	there := b.since(b.base)
	for _, i := range there {
		if i.Epoch == f.Epoch && i.Blob == f.Blob {
			return taken(i.Seq)
		}
	}
	if len(there) == maxLog {
		return fault(api.ErrFull)
	}
	if b.bytes()+len(f.Blob) > b.quota {
		return fault(api.ErrQuota)
	}
	b.all = append(b.all, api.Item{Seq: len(b.all) + 1, Epoch: f.Epoch, Blob: f.Blob})
	return taken(len(b.all))
}

func (b *book) fetch(f api.Frame) api.Frame {
	if f.Seq <= b.base {
		return fault(api.ErrGone)
	}
	l := b.since(f.Seq - 1)
	for len(l) > f.Max || len(l) > 32 || bytesOf(l) > together {
		l = l[:len(l)-1]
	}
	return given(l...)
}

func (b *book) keep(f api.Frame) api.Frame {
	if f.Seq <= b.base || f.Seq > len(b.all) {
		return fault(api.ErrArg)
	}
	if bytesOf(b.since(f.Seq))+len(f.Blob) > b.quota {
		return fault(api.ErrQuota)
	}
	s := snapshot(f.Seq, f.Epoch, f.Blob)
	b.snap, b.base = &s, f.Seq
	return kept(f.Seq)
}

// Re1.

func TestNew(t *testing.T) {
	groups := []int{0, 1, 2, 255, 256, 1 << 20, 1 << 32, maxTime - 1, maxTime}
	quotas := []int{0, 1, 2, 255, 1 << 16, maxQuota - 1, maxQuota}
	for _, g := range groups {
		for _, q := range quotas {
			r := relayOf(t, g, q)
			has(t, r, 0, 0, 0)
			if f := heard(t, r, asBytes(t, of(g, ask()))); f.Group != g || f.Err != api.ErrNone {
				t.Errorf("New %d, %d: it answers %s", g, q, short(f))
			}
		}
	}
	noGroups := []int{-1, maxTime + 1, -2, -maxTime, 1 << 41, math.MinInt, math.MinInt + 1, math.MaxInt}
	noQuotas := []int{-1, maxQuota + 1, -2, -maxQuota, 1 << 21, 1 << 32, math.MinInt, math.MinInt + 1, math.MaxInt}
	refused := func(g, q int) {
		t.Helper()
		if r, e := New(g, q); r != nil || e != api.ErrArg {
			t.Errorf("New %d, %d: %v %d, not ErrArg", g, q, r, e)
		}
	}
	for _, g := range noGroups {
		for _, q := range slices.Concat(quotas, noQuotas) {
			refused(g, q)
		}
	}
	for _, q := range noQuotas {
		for _, g := range groups {
			refused(g, q)
		}
	}
}

func TestANewRelay(t *testing.T) {
	r := relayOf(t, home, maxQuota)
	has(t, r, 0, 0, 0)
	refuses(t, r, ask(), api.ErrNone)
	refuses(t, r, fetch(0, 32), api.ErrGone)
	for _, seq := range []int{1, 2, 1025, maxTime} {
		answers(t, r, fetch(seq, 32), given())
	}
	for _, seq := range []int{0, 1, maxTime} {
		refuses(t, r, keep(seq, 1, "x"), api.ErrArg)
	}
	has(t, r, 0, 0, 0)
}

// Last, Base, Bytes and Items, told step by step.
func TestWhatItHas(t *testing.T) {
	r, l := filled(t, 100, "one", "two", "", "three")
	has(t, r, 0, 4, 11, l...)
	answers(t, r, keep(2, 7, "snap"), kept(2))
	has(t, r, 2, 4, 9, l[2:]...)
	answers(t, r, record(2, "four"), taken(5))
	l = append(l, api.Item{Seq: 5, Epoch: 2, Blob: "four"})
	has(t, r, 2, 5, 13, l[2:]...)
	answers(t, r, keep(5, 8, ""), kept(5))
	has(t, r, 5, 5, 0)
	answers(t, r, record(3, "five"), taken(6))
	has(t, r, 5, 6, 4, api.Item{Seq: 6, Epoch: 3, Blob: "five"})
}

// A relay of the quota 0 has room for Blobs of no bytes.
func TestNoQuota(t *testing.T) {
	r := relayOf(t, home, 0)
	refuses(t, r, record(1, "x"), api.ErrQuota)
	answers(t, r, record(1, ""), taken(1))
	answers(t, r, record(2, ""), taken(2))
	answers(t, r, record(1, ""), taken(1))
	has(t, r, 0, 2, 0, api.Item{Seq: 1, Epoch: 1}, api.Item{Seq: 2, Epoch: 2})
	refuses(t, r, keep(1, 1, "x"), api.ErrQuota)
	answers(t, r, keep(1, 1, ""), kept(1))
	answers(t, r, ask(), snapshot(1, 1, ""))
}

// Re2.

func TestExample(t *testing.T) {
	r := relayOf(t, home, 100)
	answers(t, r, record(1, "a"), taken(1))
	answers(t, r, record(1, "a"), taken(1))
	answers(t, r, record(1, "b"), taken(2))
	has(t, r, 0, 2, 2, api.Item{Seq: 1, Epoch: 1, Blob: "a"}, api.Item{Seq: 2, Epoch: 1, Blob: "b"})
}

// The bytes of what comes and of what is answered, that nothing here works out: the kind, the group, Seq, Epoch, Max, Err
// of six bytes each, the Blob, and the items.
func TestByteForByte(t *testing.T) {
	const none, group, one = "\x00\x00\x00\x00\x00\x00", "\x00\x00\x00\x00\x00\x03", "\x00\x00\x00\x00\x00\x01"
	const nine = "\x00\x00\x00\x00\x00\x09"
	r := relayOf(t, 3, 100)
	for _, x := range []api.Seen{
		{In: "junk", Out: "\x09" + group + none + none + none + "\x00\x00\x00\x00\x00\xbe" + "\x00\x00" + "\x00"},
		{In: "\x01" + group + none + nine + none + none + "\x00\x02hi" + "\x00", Out: "\x02" + group + one + none + none + none + "\x00\x00" + "\x00"},
		{In: "\x03" + group + one + none + nine + none + "\x00\x00" + "\x00", Out: "\x04" + group + none + none + none + none + "\x00\x00" + "\x01" + one + nine + "\x00\x02hi"},
		{In: "\x07" + group + none + none + none + none + "\x00\x00" + "\x00", Out: "\x09" + group + none + none + none + "\x00\x00\x00\x00\x00\x03" + "\x00\x00" + "\x00"},
		{In: "\x05" + group + one + nine + none + none + "\x00\x01s" + "\x00", Out: "\x06" + group + one + none + none + none + "\x00\x00" + "\x00"},
		{In: "\x07" + group + none + none + none + none + "\x00\x00" + "\x00", Out: "\x08" + group + one + nine + none + none + "\x00\x01s" + "\x00"},
		{In: "\x03" + group + one + none + nine + none + "\x00\x00" + "\x00", Out: "\x09" + group + none + none + none + "\x00\x00\x00\x00\x00\xd2" + "\x00\x00" + "\x00"},
	} {
		if out := r.Hear(x.In); out != x.Out {
			t.Errorf("Hear %x: %x, not %x", x.In, out, x.Out)
		}
	}
}

// hearsNoFrame holds that a text is answered as one that is no frame, and does nothing.
func hearsNoFrame(t *testing.T, r *Relay, s string) {
	t.Helper()
	was := stateOf(t, r)
	if a := r.Hear(s); a != asBytes(t, fault(api.ErrWire)) {
		t.Errorf("Hear %.80x: %.80x, not ErrWire", s, a)
	}
	if is := stateOf(t, r); !is.is(was) {
		t.Errorf("Hear %.80x: changed to %s, it was %s", s, short(is), short(was))
	}
}

func TestNoFrames(t *testing.T) {
	r, _ := filled(t, 100, "a", "b")
	for _, s := range []string{"", "\x00", "\x01", "junk", strings.Repeat("\x00", 34), strings.Repeat("\xff", 34), text(1 << 17)} {
		hearsNoFrame(t, r, s)
	}
	for _, f := range slices.Concat(goes(), comes()) {
		// Of another group, too: that it is no frame is told first, and the group is the relay's.
		for _, s := range []string{asBytes(t, f), asBytes(t, of(home+1, f))} {
			for n := range len(s) {
				hearsNoFrame(t, r, s[:n])
			}
			hearsNoFrame(t, r, s+"\x00")
			hearsNoFrame(t, r, s+s)
			hearsNoFrame(t, r, "\x00"+s[1:])
			hearsNoFrame(t, r, "\x0a"+s[1:])
		}
	}
	// A part that its kind does not name.
	s := asBytes(t, ask())
	hearsNoFrame(t, r, s[:12]+"\x01"+s[13:])
	s = asBytes(t, record(1, "c"))
	hearsNoFrame(t, r, s[:12]+"\x01"+s[13:])
	// A Blob of one byte too many.
	s = asBytes(t, record(1, text(longest)))
	hearsNoFrame(t, r, s[:31]+"\x4e\x21"+s[33:len(s)-1]+"x\x00")
}

func TestTheGroupIsTheRelays(t *testing.T) {
	for _, group := range []int{0, 1, home, 256, 1 << 32, maxTime} {
		r := relayOf(t, group, 100)
		for _, f := range []api.Frame{record(1, "a"), fetch(1, 1), keep(1, 1, "s"), ask(), fetch(1, 1), taken(1)} {
			if a := heard(t, r, asBytes(t, of(group, f))); a.Group != group || a.Err == api.ErrArg != (f.Kind == api.FrameTaken) {
				t.Errorf("of the group %d: Hear %s: %s", group, short(f), short(a))
			}
		}
		for _, s := range []string{"", "junk"} {
			if a := r.Hear(s); a != asBytes(t, of(group, fault(api.ErrWire))) {
				t.Errorf("of the group %d: Hear %q: %x", group, s, a)
			}
		}
		for _, other := range []int{0, 1, home, 256, 1 << 32, maxTime, group ^ 1, group ^ 256, group ^ 1<<39} {
			if other == group {
				continue
			}
			for _, f := range slices.Concat(goes(), comes()) {
				if a := r.Hear(asBytes(t, of(other, f))); a != asBytes(t, of(group, fault(api.ErrArg))) {
					t.Errorf("of the group %d: Hear %s of %d: %x", group, short(f), other, a)
				}
			}
		}
		has(t, r, 1, 1, 1)
	}
}

func TestOfAnotherGroup(t *testing.T) {
	r, _ := filled(t, 100, "a", "b")
	answers(t, r, keep(1, 1, "s"), kept(1))
	for _, f := range slices.Concat(goes(), comes(), []api.Frame{record(1, "b"), fetch(2, 9), keep(2, 1, "x")}) {
		for _, group := range []int{0, 1, home - 1, home + 1, home + 256, home + 1<<32, maxTime} {
			refuses(t, r, of(group, f), api.ErrArg)
		}
	}
}

func TestKindsThatGoToNoRelay(t *testing.T) {
	r, l := filled(t, 100, "a", "b")
	for _, f := range comes() {
		refuses(t, r, f, api.ErrArg)
	}
	answers(t, r, keep(1, 1, "s"), kept(1))
	for _, f := range comes() {
		refuses(t, r, f, api.ErrArg)
	}
	has(t, r, 1, 2, 2, l[1:]...)
}

// FrameAppend.

func TestAppendedAgain(t *testing.T) {
	r := relayOf(t, home, 100)
	rows := []api.Frame{record(1, "a"), record(2, "a"), record(1, "b"), record(0, "a"), record(maxTime, "a"), record(1, ""), record(0, ""), record(1, "ab"), record(257, "a"), record(1, "a\x00")}
	var l []api.Item
	for k, f := range rows {
		answers(t, r, f, taken(k+1))
		l = append(l, api.Item{Seq: k + 1, Epoch: f.Epoch, Blob: f.Blob})
		// All that are there already, the last one among them.
		for i := range k + 1 {
			answers(t, r, rows[i], taken(i+1))
		}
	}
	has(t, r, 0, len(rows), 10, l...)
}

// What is there already is told ahead of all that would be refused.
func TestAppendedAgainWhereNothingFits(t *testing.T) {
	r, l := filled(t, 4, "ab", "cd")
	refuses(t, r, record(1, "e"), api.ErrQuota)
	answers(t, r, record(1, "ab"), taken(1))
	answers(t, r, record(1, "cd"), taken(2))
	has(t, r, 0, 2, 4, l...)
	refuses(t, r, record(2, "ab"), api.ErrQuota)
}

func TestTheMostRecords(t *testing.T) {
	blobs := numbered(maxLog)
	r, l := filled(t, maxQuota, blobs...)
	has(t, r, 0, maxLog, 6*maxLog, l...)
	for _, b := range []string{"x", "", text(longest)} {
		refuses(t, r, record(1, b), api.ErrFull)
	}
	refuses(t, r, record(2, blobs[0]), api.ErrFull)
	for _, k := range []int{0, 1, 511, 1022, 1023} {
		answers(t, r, record(1, blobs[k]), taken(k+1))
	}
	has(t, r, 0, maxLog, 6*maxLog, l...)
	// As many as are gone have room, no more.
	answers(t, r, keep(2, 1, "s"), kept(2))
	answers(t, r, record(1, "x"), taken(maxLog+1))
	answers(t, r, record(1, "y"), taken(maxLog+2))
	refuses(t, r, record(1, "z"), api.ErrFull)
	answers(t, r, record(1, "x"), taken(maxLog+1))
	if r.Last() != maxLog+2 || r.Base() != 2 || len(r.Items()) != maxLog {
		t.Error(r.Last(), r.Base(), len(r.Items()))
	}
	answers(t, r, keep(maxLog+2, 1, "s"), kept(maxLog+2))
	answers(t, r, record(1, "z"), taken(maxLog+3))
}

// Too many records are told ahead of too many bytes.
func TestFullAheadOfQuota(t *testing.T) {
	blobs := numbered(maxLog)
	r, _ := filled(t, 6*maxLog, blobs...)
	refuses(t, r, record(1, "x"), api.ErrFull)
	r, _ = filled(t, 6*maxLog-1, blobs[:maxLog-1]...)
	refuses(t, r, record(1, "123456"), api.ErrQuota)
	answers(t, r, record(1, "12345"), taken(maxLog))
	refuses(t, r, record(1, "x"), api.ErrFull)
}

func TestTheQuotaOfRecords(t *testing.T) {
	for _, quota := range []int{1, 2, 5, 63, 1000, longest - 1, longest, longest + 1, together} {
		// A Blob alone, and one behind another one.
		r := relayOf(t, home, quota)
		if quota < longest {
			refuses(t, r, record(1, text(quota+1)), api.ErrQuota)
		}
		first := min(quota/2, longest)
		answers(t, r, record(1, text(first)), taken(1))
		left := quota - first
		if left < longest {
			refuses(t, r, record(2, text(left+1)), api.ErrQuota)
		}
		// What was refused has no number, and what fits comes yet.
		left = min(left, longest)
		answers(t, r, record(2, text(left)), taken(2))
		has(t, r, 0, 2, first+left, api.Item{Seq: 1, Epoch: 1, Blob: text(first)}, api.Item{Seq: 2, Epoch: 2, Blob: text(left)})
		if first+left == quota {
			refuses(t, r, record(3, "x"), api.ErrQuota)
			answers(t, r, record(3, ""), taken(3))
		}
	}
}

func TestTheGreatestQuota(t *testing.T) {
	r := relayOf(t, home, maxQuota)
	n := 0
	for ; n < maxQuota/longest; n++ {
		answers(t, r, record(n, text(longest)), taken(n+1))
	}
	left := maxQuota - n*longest
	refuses(t, r, record(n, text(left+1)), api.ErrQuota)
	answers(t, r, record(n, text(left)), taken(n+1))
	refuses(t, r, record(n, "x"), api.ErrQuota)
	if r.Bytes() != maxQuota || r.Last() != n+1 {
		t.Error(r.Bytes(), r.Last())
	}
}

// The snapshot's bytes count, too.
func TestTheQuotaOfRecordsWithASnapshot(t *testing.T) {
	r, l := filled(t, 12, "1234", "5678")
	answers(t, r, keep(1, 1, "snap"), kept(1))
	refuses(t, r, record(1, "abcde"), api.ErrQuota)
	answers(t, r, record(1, "abcd"), taken(3))
	has(t, r, 1, 3, 12, l[1], api.Item{Seq: 3, Epoch: 1, Blob: "abcd"})
	refuses(t, r, record(1, "x"), api.ErrQuota)
}

func TestAppendOfWhatIsGone(t *testing.T) {
	r, l := filled(t, 100, "a", "b", "c")
	answers(t, r, keep(2, 1, "s"), kept(2))
	// It is no record any more: so it is a new one, behind all that there were.
	answers(t, r, record(1, "b"), taken(4))
	answers(t, r, record(1, "b"), taken(4))
	answers(t, r, record(1, "c"), taken(3))
	answers(t, r, record(1, "a"), taken(5))
	has(t, r, 2, 5, 4, l[2], api.Item{Seq: 4, Epoch: 1, Blob: "b"}, api.Item{Seq: 5, Epoch: 1, Blob: "a"})
	// The snapshot is no record.
	answers(t, r, record(1, "s"), taken(6))
}

// FrameFetch.

func TestWhereFetchBegins(t *testing.T) {
	r, l := filled(t, 100, "a", "b", "c", "d", "e")
	for seq := 1; seq <= 5; seq++ {
		answers(t, r, fetch(seq, 32), given(l[seq-1:]...))
	}
	for _, seq := range []int{6, 7, 1 << 32, 1<<32 + 1, maxTime} {
		answers(t, r, fetch(seq, 32), given())
	}
	refuses(t, r, fetch(0, 32), api.ErrGone)
	answers(t, r, keep(2, 1, "s"), kept(2))
	for seq := range 3 {
		for _, most := range []int{0, 1, 32, maxTime} {
			refuses(t, r, fetch(seq, most), api.ErrGone)
		}
	}
	for seq := 3; seq <= 5; seq++ {
		answers(t, r, fetch(seq, 32), given(l[seq-1:]...))
	}
	for _, seq := range []int{6, 7, maxTime} {
		answers(t, r, fetch(seq, 32), given())
	}
	// All are gone.
	answers(t, r, keep(5, 1, "s"), kept(5))
	refuses(t, r, fetch(5, 32), api.ErrGone)
	answers(t, r, fetch(6, 32), given())
	has(t, r, 5, 5, 1)
}

func TestHowManyAreFetched(t *testing.T) {
	r, l := filled(t, 1000, numbered(40)...)
	for _, x := range []struct{ seq, most, want int }{
		{1, 0, 0}, {1, 1, 1}, {1, 2, 2}, {1, 31, 31}, {1, 32, 32}, {1, 33, 32}, {1, 40, 32}, {1, 1 << 32, 32}, {1, maxTime, 32},
		{8, 32, 32}, {9, 31, 31}, {9, 32, 32}, {9, 33, 32}, {10, 32, 31}, {10, 30, 30}, {40, 0, 0}, {40, 1, 1}, {40, 2, 1}, {41, 0, 0}, {41, 1, 0},
	} {
		answers(t, r, fetch(x.seq, x.most), given(l[x.seq-1:x.seq-1+x.want]...))
	}
	has(t, r, 0, 40, 240, l...)
}

func TestHowManyBytesAreFetched(t *testing.T) {
	for _, x := range []struct {
		sizes []int
		want  int
	}{
		{[]int{longest}, 1},
		{[]int{longest, longest}, 2},
		{[]int{longest, longest, 1}, 2},
		{[]int{longest, longest, 0, 0, 1, 0}, 4},
		{[]int{longest, longest - 1, 1, 1}, 3},
		{[]int{longest, longest - 1, 2}, 2},
		// Those behind one that has no room do not come ahead of it.
		{[]int{longest, longest - 1, 2, 1}, 2},
		{[]int{longest - 1, longest, 1}, 3},
		{[]int{1, longest, longest, 2}, 2},
		{[]int{1, longest, longest - 1}, 3},
		{[]int{10000, 10001, 9999, 10000, 1}, 4},
		{[]int{10000, 10001, 9999, 10001}, 3},
		{[]int{13333, 13334, 13333, longest}, 3},
		{[]int{13333, 13334, 13334, longest}, 2},
	} {
		r := relayOf(t, home, maxQuota)
		var l []api.Item
		for k, n := range x.sizes {
			// Those of one size are told apart by their epochs.
			answers(t, r, record(k, text(n)), taken(k+1))
			l = append(l, api.Item{Seq: k + 1, Epoch: k, Blob: text(n)})
		}
		answers(t, r, fetch(1, 32), given(l[:x.want]...))
		answers(t, r, fetch(1, x.want), given(l[:x.want]...))
		answers(t, r, fetch(1, 1), given(l[0]))
		answers(t, r, fetch(len(l), 32), given(l[len(l)-1]))
	}
}

// All bytes that one answer may have, in as many records as it may have.
func TestTheGreatestAnswer(t *testing.T) {
	r := relayOf(t, home, maxQuota)
	var l []api.Item
	for k := range 33 {
		l = append(l, api.Item{Seq: k + 1, Epoch: maxTime - k, Blob: text(together / 32)})
		answers(t, r, record(l[k].Epoch, l[k].Blob), taken(k+1))
	}
	answers(t, r, fetch(1, maxTime), given(l[:32]...))
	answers(t, r, fetch(2, maxTime), given(l[1:]...))
}

// inParts is all that there is behind a number, fetched bit by bit.
func inParts(t *testing.T, r *Relay, from, most int) []api.Item {
	t.Helper()
	var l []api.Item
	for {
		f := heard(t, r, asBytes(t, fetch(from+len(l)+1, most)))
		if f.Kind != api.FrameGiven || len(f.Items) > min(most, 32) || bytesOf(f.Items) > together {
			t.Fatalf("from %d, %d at most: %s", from+len(l)+1, most, short(f))
		}
		if len(f.Items) == 0 {
			return l
		}
		l = append(l, f.Items...)
	}
}

func TestFetchInParts(t *testing.T) {
	draw := rand.New(rand.NewSource(211))
	r := relayOf(t, home, maxQuota)
	for k := range 150 {
		n := []int{draw.Intn(64), draw.Intn(3000), draw.Intn(longest + 1), longest}[[]int{0, 0, 0, 1, 1, 1, 2, 3}[k%8]]
		answers(t, r, record(draw.Intn(3), drawn(draw, n)), taken(k+1))
	}
	for _, base := range []int{0, 1, 33, 149, 150} {
		if base > 0 {
			answers(t, r, keep(base, 1, text(100)), kept(base))
		}
		for _, most := range []int{1, 2, 7, 31, 32, 33, maxTime} {
			if l := inParts(t, r, base, most); !slices.Equal(l, r.Items()) || len(l) != 150-base {
				t.Errorf("%d at most, behind %d: %d records, not %d", most, base, len(l), 150-base)
			}
		}
	}
}

// FrameKeep and FrameAsk.

func TestWhereASnapshotIs(t *testing.T) {
	r, l := filled(t, 100, "a", "b", "c", "d", "e")
	for _, seq := range []int{0, 6, 7, 1<<32 + 1, maxTime} {
		refuses(t, r, keep(seq, 1, "s"), api.ErrArg)
	}
	refuses(t, r, ask(), api.ErrNone)
	answers(t, r, keep(3, 1, "s"), kept(3))
	has(t, r, 3, 5, 3, l[3:]...)
	// At the base, and below it: the same one again, too.
	for _, f := range []api.Frame{keep(0, 1, "s"), keep(1, 1, "s"), keep(2, 1, "s"), keep(3, 1, "s"), keep(3, 2, "z"), keep(6, 1, "s"), keep(maxTime, 1, "s")} {
		refuses(t, r, f, api.ErrArg)
	}
	answers(t, r, ask(), snapshot(3, 1, "s"))
	answers(t, r, keep(4, 1, "s"), kept(4))
	has(t, r, 4, 5, 2, l[4])
	answers(t, r, keep(5, 1, "s"), kept(5))
	has(t, r, 5, 5, 1)
	for _, seq := range []int{0, 4, 5, 6} {
		refuses(t, r, keep(seq, 1, "s"), api.ErrArg)
	}
	answers(t, r, ask(), snapshot(5, 1, "s"))
	// The numbers go on.
	answers(t, r, record(1, "f"), taken(6))
	has(t, r, 5, 6, 2, api.Item{Seq: 6, Epoch: 1, Blob: "f"})
}

func TestASnapshotInPlaceOfAnotherOne(t *testing.T) {
	r, l := filled(t, 3*longest, "a", "b", "c")
	bytes := 3
	for k, x := range []api.Frame{keep(1, 0, ""), keep(2, maxTime, text(longest)), keep(3, 5, "s")} {
		answers(t, r, x, kept(x.Seq))
		bytes--
		has(t, r, k+1, 3, bytes+len(x.Blob), l[k+1:]...)
		for range 2 {
			answers(t, r, ask(), snapshot(x.Seq, x.Epoch, x.Blob))
		}
	}
}

// What goes has room for what comes: the records up to Seq, and the snapshot that was.
func TestTheQuotaOfSnapshots(t *testing.T) {
	r, l := filled(t, 10, "aaa", "bbb", "cccc")
	refuses(t, r, keep(1, 1, "1234"), api.ErrQuota)
	answers(t, r, keep(1, 1, "123"), kept(1))
	has(t, r, 1, 3, 10, l[1:]...)
	// Six bytes are free of 3 and 3: not nine of 3, 3 and 3 that were.
	refuses(t, r, keep(2, 1, "1234567"), api.ErrQuota)
	answers(t, r, ask(), snapshot(1, 1, "123"))
	answers(t, r, keep(2, 2, "123456"), kept(2))
	has(t, r, 2, 3, 10, l[2])
	refuses(t, r, keep(3, 2, "12345678901"), api.ErrQuota)
	answers(t, r, keep(3, 2, "1234567890"), kept(3))
	has(t, r, 3, 3, 10)
	refuses(t, r, record(1, "x"), api.ErrQuota)
	// One of no bytes in its place lets there be room again.
	answers(t, r, record(1, ""), taken(4))
	answers(t, r, keep(4, 1, ""), kept(4))
	has(t, r, 4, 4, 0)
	answers(t, r, record(1, "1234567890"), taken(5))
}

// A Seq that may not be is told ahead of too many bytes.
func TestArgAheadOfQuota(t *testing.T) {
	r, _ := filled(t, 3, "a", "b", "c")
	refuses(t, r, keep(0, 1, text(100)), api.ErrArg)
	refuses(t, r, keep(4, 1, text(100)), api.ErrArg)
	refuses(t, r, keep(3, 1, text(100)), api.ErrQuota)
	answers(t, r, keep(1, 1, "s"), kept(1))
	refuses(t, r, keep(1, 1, text(100)), api.ErrArg)
}

func TestAsk(t *testing.T) {
	r, _ := filled(t, 100, "a", "b")
	refuses(t, r, ask(), api.ErrNone)
	refuses(t, r, keep(1, 1, text(100)), api.ErrQuota)
	refuses(t, r, ask(), api.ErrNone)
	answers(t, r, keep(1, 0, ""), kept(1))
	answers(t, r, ask(), snapshot(1, 0, ""))
	answers(t, r, record(9, "c"), taken(3))
	answers(t, r, ask(), snapshot(1, 0, ""))
	answers(t, r, keep(3, 7, "snap"), kept(3))
	answers(t, r, ask(), snapshot(3, 7, "snap"))
}

// All bytes of blobs come back as they were.
func TestBlobsOfAllBytes(t *testing.T) {
	all := ""
	for k := range 256 {
		all += string([]byte{byte(k)})
	}
	r, l := filled(t, maxQuota, all, "\x00", "\x00\x00", "é", "\xff\xfe")
	answers(t, r, fetch(1, 32), given(l...))
	answers(t, r, keep(1, 1, all), kept(1))
	answers(t, r, ask(), snapshot(1, 1, all))
	has(t, r, 1, 5, len(all)+7, l[1:]...)
}

// Re3, and drawn frames beside a relay by hand.

// same holds that a relay has what is had by hand.
func same(t *testing.T, r *Relay, b *book) {
	t.Helper()
	if r.Last() != len(b.all) || r.Base() != b.base || r.Bytes() != b.bytes() {
		t.Fatalf("Last %d, Base %d, Bytes %d, not %d, %d, %d", r.Last(), r.Base(), r.Bytes(), len(b.all), b.base, b.bytes())
	}
	if got := r.Items(); !slices.Equal(got, b.since(b.base)) {
		t.Fatalf("Items %s, not %s", short(got), short(b.since(b.base)))
	}
}

// drawnFrame is one that a relay that is as a book may hear, near all that its answer may turn at.
func drawnFrame(draw *rand.Rand, b *book) api.Frame {
	near := func(l ...int) int { return min(max(0, l[draw.Intn(len(l))]+draw.Intn(3)-1), maxTime) }
	blob := drawn(draw, min(longest, []int{0, 1, 5, draw.Intn(64), near(b.quota - b.bytes()), near(longest)}[draw.Intn(6)]))
	if n := len(b.all); n > 0 && draw.Intn(4) == 0 {
		blob = b.all[draw.Intn(n)].Blob
	}
	epoch, group := draw.Intn(3), b.group
	if draw.Intn(20) == 0 {
		group = near(b.group, 1)
	}
	switch draw.Intn(12) {
	case 0:
		return of(group, ask())
	case 1, 2, 3:
		return of(group, fetch(near(b.base, len(b.all), b.base+20, 0), near(0, 4, 32, maxTime)))
	case 4:
		return of(group, keep(near(b.base, len(b.all), (b.base+len(b.all))/2), epoch, blob))
	case 5:
		return of(group, comes()[draw.Intn(len(comes()))])
	}
	return of(group, record(epoch, blob))
}

// told is a drawn text: the bytes of a frame, or such with a byte turned, or cut.
func told(t *testing.T, draw *rand.Rand, b *book) string {
	t.Helper()
	s := asBytes(t, drawnFrame(draw, b))
	switch draw.Intn(12) {
	case 0:
		x := []byte(s)
		x[draw.Intn(min(40, len(x)))] ^= byte(1 << draw.Intn(8))
		return string(x)
	case 1:
		return s[:draw.Intn(len(s))]
	}
	return s
}

func TestDrawnFrames(t *testing.T) {
	answered := map[string]int{}
	for seed := range int64(60) {
		draw := rand.New(rand.NewSource(2100 + seed))
		b := &book{group: []int{0, home, maxTime}[seed%3], quota: []int{0, 10, 200, 3000, longest, 3 * longest, maxQuota}[seed%7]}
		r, twin := relayOf(t, b.group, b.quota), relayOf(t, b.group, b.quota)
		was := map[int]api.Item{}
		for range 300 {
			s := told(t, draw, b)
			want := b.hear(s)
			got := r.Hear(s)
			if got != asBytes(t, want) {
				f, _ := wire.Take(s)
				g, _ := wire.Take(got)
				t.Fatalf("seed %d: Hear %s: %s, not %s", seed, short(f), short(g), short(want))
			}
			// Told alike, two relays answer alike.
			if twin.Hear(s) != got {
				t.Fatalf("seed %d: two relays told alike answer otherwise to %.80x", seed, s)
			}
			same(t, r, b)
			// A record that is there is never another one, and no number is left out.
			for k, i := range r.Items() {
				if x, ok := was[i.Seq]; ok && x != i || i.Seq != r.Base()+k+1 {
					t.Fatalf("seed %d: %s, it was %s", seed, short(i), short(x))
				}
				was[i.Seq] = i
			}
			f, _ := wire.Take(s)
			answered[fmt.Sprint(f.Kind, " ", want.Kind, " ", want.Err)]++
		}
	}
	for kind, errs := range map[int][]api.Errno{
		api.FrameAppend: {api.ErrArg, api.ErrQuota},
		api.FrameFetch:  {api.ErrArg, api.ErrGone},
		api.FrameKeep:   {api.ErrArg, api.ErrQuota},
		api.FrameAsk:    {api.ErrArg, api.ErrNone},
	} {
		for _, e := range errs {
			if answered[fmt.Sprint(kind, " ", api.FrameError, " ", e)] < 20 {
				t.Error("too few:", kind, e, answered)
			}
		}
		// Each kind's own answer has the number behind it.
		if answered[fmt.Sprint(kind, " ", kind+1, " ", api.OK)] < 200 {
			t.Error("too few:", kind, answered)
		}
	}
}

// Numbers rise by one, whatever is refused in between.
func TestNumbersRiseByOne(t *testing.T) {
	r := relayOf(t, home, 5000)
	for n := 1; n <= 3000; n++ {
		b := fmt.Sprint(n)
		answers(t, r, record(1, b), taken(n))
		answers(t, r, record(1, b), taken(n))
		if n%3 == 0 {
			refuses(t, r, record(1, text(5001)), api.ErrQuota)
			hearsNoFrame(t, r, "junk")
			refuses(t, r, keep(n+1, 1, "s"), api.ErrArg)
		}
		if n%700 == 0 {
			answers(t, r, keep(n-10, 1, b), kept(n-10))
		}
		if r.Last() != n {
			t.Fatal(n, r.Last())
		}
	}
}

// R1 to R4.

// noRelay holds that it answers as one that New did not give.
func noRelay(t *testing.T, r *Relay) {
	t.Helper()
	for range 2 {
		for _, f := range slices.Concat(goes(), comes()) {
			for _, g := range []int{0, home} {
				if s := r.Hear(asBytes(t, of(g, f))); s != "" {
					t.Errorf("Hear %s: %x", short(f), s)
				}
			}
		}
		for _, s := range []string{"", "junk", text(1 << 17)} {
			if a := r.Hear(s); a != "" {
				t.Errorf("Hear %.80x: %x", s, a)
			}
		}
		has(t, r, 0, 0, 0)
	}
}

func TestNoRelay(t *testing.T) {
	noRelay(t, nil)
	noRelay(t, &Relay{})
	noRelay(t, new(Relay))
	var r Relay
	noRelay(t, &r)
	refused, _ := New(-1, 0)
	noRelay(t, refused)
}

func TestCopyIsNone(t *testing.T) {
	r, l := filled(t, 100, "a", "b")
	answers(t, r, keep(1, 1, "s"), kept(1))
	twin := *r
	noRelay(t, &twin)
	has(t, r, 1, 2, 2, l[1])
	answers(t, r, record(1, "c"), taken(3))
	noRelay(t, &twin)
	// What was overwritten by none is none.
	*r = Relay{}
	noRelay(t, r)
}

func TestDrawnTextsEnd(t *testing.T) {
	draw := rand.New(rand.NewSource(212))
	r, _ := filled(t, 1000, "a", "b", "c")
	b := &book{group: home, quota: 1000, all: r.Items()}
	for range 20000 {
		s := drawn(draw, []int{34, 34, draw.Intn(80)}[draw.Intn(3)])
		if draw.Intn(2) == 0 && s != "" {
			s = string([]byte{byte(draw.Intn(11))}) + s[1:]
		}
		if a := r.Hear(s); a != asBytes(t, b.hear(s)) {
			t.Errorf("Hear %x: %x", s, a)
		}
	}
	same(t, r, b)
}

// spoil writes over items up to the end of their room.
func spoil(l []api.Item) {
	for i := range l[:cap(l)] {
		l[:cap(l)][i] = api.Item{Seq: 99, Epoch: 99, Blob: "spoilt"}
	}
}

func TestItemsAreNotShared(t *testing.T) {
	r, l := filled(t, 100, "a", "b", "c", "d", "e")
	spoil(r.Items())
	_ = append(r.Items(), api.Item{Blob: "spoilt"})
	_ = append(r.Items()[:1], api.Item{Blob: "spoilt"})
	has(t, r, 0, 5, 5, l...)
	was := r.Items()
	answers(t, r, keep(2, 1, "s"), kept(2))
	answers(t, r, record(1, "f"), taken(6))
	if !slices.Equal(was, l) {
		t.Error("what was given was changed:", was)
	}
	spoil(was)
	spoil(r.Items())
	l = append(l, api.Item{Seq: 6, Epoch: 1, Blob: "f"})
	has(t, r, 2, 6, 5, l[2:]...)
	answers(t, r, keep(6, 1, "s"), kept(6))
	spoil(r.Items())
	_ = append(r.Items(), api.Item{Blob: "spoilt"})
	answers(t, r, record(1, "g"), taken(7))
	has(t, r, 6, 7, 2, api.Item{Seq: 7, Epoch: 1, Blob: "g"})
	one, two := r.Items(), r.Items()
	spoil(one)
	if two[0].Blob != "g" {
		t.Error("two answers share a list:", two)
	}
}

func TestWhatIsHeardIsNotShared(t *testing.T) {
	r, l := filled(t, 100, "a", "b", "c")
	one, two := heard(t, r, asBytes(t, fetch(1, 32))), heard(t, r, asBytes(t, fetch(1, 32)))
	spoil(one.Items)
	if !slices.Equal(two.Items, l) {
		t.Error("two answers share a list:", two)
	}
	has(t, r, 0, 3, 3, l...)
	answers(t, r, fetch(1, 32), given(l...))
}

// The text lies in memory that is changed behind the call, as no ordinary text's may be: the relay has bytes of its own.
func TestTextsAreNotKept(t *testing.T) {
	r := relayOf(t, home, maxQuota)
	hear := func(f, want api.Frame) {
		t.Helper()
		s := asBytes(t, f)
		b := []byte(s)
		a := r.Hear(unsafe.String(&b[0], len(b)))
		if string(b) != s {
			t.Error("what was handed in was changed")
		}
		clear(b)
		if a != asBytes(t, want) {
			t.Errorf("Hear %s: %.80x", short(f), a)
		}
	}
	hear(record(1, text(300)), taken(1))
	hear(record(2, text(200)), taken(2))
	hear(keep(1, 1, text(100)), kept(1))
	hear(fetch(2, 9), given(api.Item{Seq: 2, Epoch: 2, Blob: text(200)}))
	has(t, r, 1, 2, 300, api.Item{Seq: 2, Epoch: 2, Blob: text(200)})
	answers(t, r, ask(), snapshot(1, 1, text(100)))
}

// Relays hang on nothing but the calls on them: many at once are each as one alone.
func TestManyAtOnce(t *testing.T) {
	var wait sync.WaitGroup
	for seed := range int64(8) {
		wait.Go(func() {
			draw := rand.New(rand.NewSource(2200 + seed%2))
			b := &book{group: int(seed), quota: 3000}
			r, e := New(b.group, b.quota)
			if e != api.OK {
				t.Error(e)
				return
			}
			for range 300 {
				s, _ := wire.Put(drawnFrame(draw, b))
				want, _ := wire.Put(b.hear(s))
				if r.Hear(s) != want || r.Last() != len(b.all) || r.Base() != b.base || r.Bytes() != b.bytes() {
					t.Errorf("seed %d: Hear %.80x: not as one alone", seed, s)
				}
			}
		})
	}
	wait.Wait()
}
