package block

import (
	"math"
	"math/rand"
	"strings"
	"sync"
	"testing"
	"unsafe"

	"samphire/api"
)

const size = 64

var noughts = strings.Repeat("\x00", size)

// wild are numbers at all edges, of any kind: of some the lowest bits alone would be a place.
var wild = []int{math.MinInt, math.MinInt + 1, -1 << 32, -4097, -4096, -65, -64, -2, -1, 0, 1, 2, 3, 4, 5, 63, 64, 65, 4094, 4095, 4096, 4097, 4098, 1 << 16, 1 << 32, 1<<32 + 1, math.MaxInt - 1, math.MaxInt}

// wrongSizes are those of texts that are no block.
var wrongSizes = []int{0, 1, 32, 63, 65, 127, 128, size + 1<<8, size + 1<<16}

// text is a text of n bytes, the same one in each run.
func text(n int) string { return drawn(rand.New(rand.NewSource(int64(n))), n) }

// drawn is a text of n bytes that a test draws.
func drawn(draw *rand.Rand, n int) string {
	b := make([]byte, n)
	draw.Read(b)
	return string(b)
}

// full is a block of one letter.
func full(letter string) string { return strings.Repeat(letter, size) }

func newOf(t *testing.T, n int) *Device {
	t.Helper()
	d, e := New(n)
	if d == nil || e != api.OK {
		t.Fatalf("New of %d: %v %d", n, d != nil, e)
	}
	return d
}

// newNot holds that there is no device of so many blocks.
func newNot(t *testing.T, n int) {
	t.Helper()
	if d, e := New(n); d != nil || e != api.ErrArg {
		t.Errorf("New of %d: %v and the error %d, not ErrArg", n, d != nil, e)
	}
}

// is holds what a device tells of itself; asked twice, as asking changes nothing.
func is(t *testing.T, d *Device, n, writes int, off bool) {
	t.Helper()
	for range 2 {
		if d.Size() != n || d.Writes() != writes || d.Off() != off {
			t.Errorf("the size %d, %d writes, off %v; not %d, %d, %v", d.Size(), d.Writes(), d.Off(), n, writes, off)
		}
	}
}

// reads holds that a block is just this one.
func reads(t *testing.T, d *Device, at int, want string) {
	t.Helper()
	for range 2 {
		if s, e := d.Read(at); s != want || e != api.OK {
			t.Errorf("Read of %d: %x and the error %d, not %x", at, s, e, want)
		}
	}
}

// readsNot holds that no block is read.
func readsNot(t *testing.T, d *Device, at int, want api.Errno) {
	t.Helper()
	for range 2 {
		if s, e := d.Read(at); s != "" || e != want {
			t.Errorf("Read of %d: %x and the error %d, not the error %d", at, s, e, want)
		}
	}
}

// answers holds that a call answered this error.
func answers(t *testing.T, what string, e, want api.Errno) {
	t.Helper()
	if e != want {
		t.Errorf("%s: the error %d, not %d", what, e, want)
	}
}

// writes holds what a write answers.
func writes(t *testing.T, d *Device, at int, s string, want api.Errno) {
	t.Helper()
	answers(t, "Write", d.Write(at, s), want)
}

func fuse(t *testing.T, d *Device, k int) {
	t.Helper()
	answers(t, "Fuse", d.Fuse(k), api.OK)
}

func on(t *testing.T, d *Device) {
	t.Helper()
	answers(t, "On", d.On(), api.OK)
}

// darken puts the power off, at a place that stays as it is.
func darken(t *testing.T, d *Device, at int) {
	t.Helper()
	fuse(t, d, 0)
	writes(t, d, at, full("!"), api.ErrOff)
	if !d.Off() {
		t.Error("the power is on")
	}
}

// burns holds that behind just so many writes the power goes off.
func burns(t *testing.T, d *Device, left int) {
	t.Helper()
	for range left {
		writes(t, d, 0, full("b"), api.OK)
		if d.Off() {
			t.Error("off at a write that is done")
		}
	}
	writes(t, d, 0, full("c"), api.ErrOff)
	if !d.Off() {
		t.Error("on behind a fuse of 0")
	}
}

// lasts holds that there is no fuse: many writes are done.
func lasts(t *testing.T, d *Device) {
	t.Helper()
	n, many := d.Writes(), 200
	for range many {
		writes(t, d, 0, full("l"), api.OK)
	}
	is(t, d, d.Size(), n+many, false)
}

func TestExample(t *testing.T) {
	d := newOf(t, 2)
	fuse(t, d, 1)
	writes(t, d, 0, full("a"), api.OK)
	writes(t, d, 1, full("b"), api.ErrOff)
	is(t, d, 2, 1, true)
	on(t, d)
	reads(t, d, 0, full("a"))
	reads(t, d, 1, noughts)
}

func TestNew(t *testing.T) {
	for _, n := range wild {
		if n >= 1 && n <= 4096 {
			is(t, newOf(t, n), n, 0, false)
		} else {
			newNot(t, n)
		}
	}
	for _, n := range []int{-1, 0, 4097, math.MaxInt, math.MinInt} {
		newNot(t, n)
	}
}

func TestNewIsNoughts(t *testing.T) {
	for _, n := range []int{1, 2, 3, 64, 4095, 4096} {
		d := newOf(t, n)
		for at := range n {
			reads(t, d, at, noughts)
		}
		readsNot(t, d, n, api.ErrArg)
		is(t, d, n, 0, false)
		lasts(t, d)
	}
}

func TestTwoDevicesShareNothing(t *testing.T) {
	a, b := newOf(t, 2), newOf(t, 2)
	writes(t, a, 0, full("a"), api.OK)
	darken(t, a, 0)
	is(t, b, 2, 0, false)
	reads(t, b, 0, noughts)
	lasts(t, b)
	is(t, a, 2, 1, true)
}

func TestPlaces(t *testing.T) {
	for _, n := range []int{1, 2, 5, 64, 4096} {
		d := newOf(t, n)
		done := 0
		for _, at := range append([]int{n - 1, n, n + 1, -n, at32(n)}, wild...) {
			if at < 0 || at >= n {
				writes(t, d, at, full("x"), api.ErrArg)
				readsNot(t, d, at, api.ErrArg)
			} else {
				s := text(size + at)[:size]
				writes(t, d, at, s, api.OK)
				done++
				reads(t, d, at, s)
			}
			is(t, d, n, done, false)
		}
	}
}

// at32 is a place that is the last one in its lowest 32 bits alone.
func at32(n int) int { return n - 1 + 1<<32 }

func TestOneBlockAlone(t *testing.T) {
	const n = 9
	for at := range n {
		d := newOf(t, n)
		for k := range n {
			writes(t, d, k, full(string(rune('a'+k))), api.OK)
		}
		writes(t, d, at, text(size), api.OK)
		for k := range n {
			want := full(string(rune('a' + k)))
			if k == at {
				want = text(size)
			}
			reads(t, d, k, want)
		}
		is(t, d, n, n+1, false)
	}
}

func TestSizesOfTexts(t *testing.T) {
	d := newOf(t, 2)
	writes(t, d, 1, full("a"), api.OK)
	for _, n := range wrongSizes {
		writes(t, d, 0, text(n), api.ErrArg)
		writes(t, d, 1, text(n), api.ErrArg)
		writes(t, d, 2, text(n), api.ErrArg)
		writes(t, d, -1, text(n), api.ErrArg)
	}
	is(t, d, 2, 1, false)
	reads(t, d, 0, noughts)
	reads(t, d, 1, full("a"))
	writes(t, d, 0, text(64), api.OK)
	is(t, d, 2, 2, false)
	reads(t, d, 0, text(64))
}

func TestBytesOfAllKinds(t *testing.T) {
	d := newOf(t, 4)
	all := make([]byte, 256)
	for k := range all {
		all[k] = byte(k)
	}
	for at := range 4 {
		writes(t, d, at, string(all[at*size:(at+1)*size]), api.OK)
	}
	got := ""
	for at := range 4 {
		s, e := d.Read(at)
		answers(t, "Read", e, api.OK)
		got += s
	}
	if got != string(all) {
		t.Errorf("%x", got)
	}
	writes(t, d, 1, noughts, api.OK)
	reads(t, d, 1, noughts)
	// 64 runes are not 64 bytes, and 64 bytes may be no runes.
	writes(t, d, 2, strings.Repeat("é", size), api.ErrArg)
	writes(t, d, 2, strings.Repeat("é", size/2), api.OK)
	reads(t, d, 2, strings.Repeat("é", size/2))
}

// The text lies in memory that is changed behind the call, as no ordinary text's may be: the block has bytes of its own.
func TestNothingIsShared(t *testing.T) {
	d := newOf(t, 2)
	b := []byte(text(3 * size))
	writes(t, d, 0, unsafe.String(&b[size], size), api.OK)
	if string(b) != text(3*size) {
		t.Error("what was handed in was changed")
	}
	clear(b)
	want := text(3 * size)[size : 2*size]
	reads(t, d, 0, want)
	was, _ := d.Read(0)
	writes(t, d, 0, full("z"), api.OK)
	if was != want {
		t.Error("what was read was changed by a write behind it")
	}
	if string(b) != strings.Repeat("\x00", 3*size) {
		t.Error("what was handed in was changed by a later write")
	}
	reads(t, d, 1, noughts)
}

func TestFuse(t *testing.T) {
	for _, k := range []int{0, 1, 2, 3, 64, 300} {
		d := newOf(t, 3)
		writes(t, d, 2, full("a"), api.OK)
		fuse(t, d, k)
		is(t, d, 3, 1, false)
		burns(t, d, k)
		is(t, d, 3, 1+k, true)
		on(t, d)
		want := noughts
		if k > 0 {
			want = full("b")
		}
		reads(t, d, 0, want)
		reads(t, d, 1, noughts)
		reads(t, d, 2, full("a"))
		lasts(t, d)
	}
}

func TestFuseOfTheGreatest(t *testing.T) {
	d := newOf(t, 1)
	fuse(t, d, math.MaxInt)
	lasts(t, d)
	fuse(t, d, 1)
	burns(t, d, 1)
}

func TestFuseBelowNought(t *testing.T) {
	for _, k := range []int{-1, -2, -64, -1 << 32, math.MinInt + 1, math.MinInt} {
		d := newOf(t, 1)
		fuse(t, d, k)
		lasts(t, d)
		for _, ahead := range []int{0, 1, 2} {
			fuse(t, d, ahead)
			fuse(t, d, k)
			lasts(t, d)
		}
	}
}

func TestFuseInPlaceOfAnother(t *testing.T) {
	for _, ahead := range []int{-1, 0, 1, 2, 5} {
		for _, k := range []int{0, 1, 2, 5} {
			d := newOf(t, 1)
			fuse(t, d, ahead)
			fuse(t, d, k)
			burns(t, d, k)
			is(t, d, 1, k, true)
		}
	}
	d := newOf(t, 1)
	fuse(t, d, 3)
	writes(t, d, 0, full("a"), api.OK)
	fuse(t, d, 3)
	burns(t, d, 3)
}

// A fuse of 0 is not yet power that is off: it goes off at the write.
func TestFuseOfNoughtAheadOfTheWrite(t *testing.T) {
	d := newOf(t, 2)
	writes(t, d, 0, full("a"), api.OK)
	fuse(t, d, 0)
	is(t, d, 2, 1, false)
	reads(t, d, 0, full("a"))
	reads(t, d, 1, noughts)
	fuse(t, d, -1)
	writes(t, d, 1, full("b"), api.OK)
	fuse(t, d, 1)
	writes(t, d, 1, full("c"), api.OK)
	is(t, d, 2, 3, false)
	reads(t, d, 1, full("c"))
	on(t, d)
	lasts(t, d)
}

func TestOff(t *testing.T) {
	d := newOf(t, 3)
	writes(t, d, 0, full("a"), api.OK)
	writes(t, d, 1, full("b"), api.OK)
	darken(t, d, 1)
	for at := range 3 {
		writes(t, d, at, full("c"), api.ErrOff)
		writes(t, d, at, full("d"), api.ErrOff)
		readsNot(t, d, at, api.ErrOff)
	}
	is(t, d, 3, 2, true)
	on(t, d)
	is(t, d, 3, 2, false)
	reads(t, d, 0, full("a"))
	reads(t, d, 1, full("b"))
	reads(t, d, 2, noughts)
	lasts(t, d)
}

// With the power off a fuse may be set, but it gives no power, and On takes it away.
func TestFuseWhileOff(t *testing.T) {
	for _, k := range []int{math.MinInt, -1, 0, 1, 2, math.MaxInt} {
		d := newOf(t, 2)
		writes(t, d, 1, full("a"), api.OK)
		darken(t, d, 0)
		fuse(t, d, k)
		is(t, d, 2, 1, true)
		writes(t, d, 0, full("b"), api.ErrOff)
		readsNot(t, d, 1, api.ErrOff)
		fuse(t, d, k)
		is(t, d, 2, 1, true)
		on(t, d)
		reads(t, d, 0, noughts)
		reads(t, d, 1, full("a"))
		lasts(t, d)
	}
}

func TestOn(t *testing.T) {
	d := newOf(t, 2)
	on(t, d)
	is(t, d, 2, 0, false)
	for _, k := range []int{0, 1, 2} {
		fuse(t, d, k)
		on(t, d)
		lasts(t, d)
	}
	n := d.Writes()
	writes(t, d, 1, full("a"), api.OK)
	for range 3 {
		darken(t, d, 0)
		on(t, d)
		on(t, d)
		is(t, d, 2, n+1, false)
		reads(t, d, 1, full("a"))
		reads(t, d, 0, full("l"))
	}
}

func TestWritesAcrossOn(t *testing.T) {
	d := newOf(t, 4)
	for k := range 10 {
		fuse(t, d, k)
		burns(t, d, k)
		is(t, d, 4, (k+1)*k/2, true)
		on(t, d)
		is(t, d, 4, (k+1)*k/2, false)
	}
}

// wrongWrites holds that what may not be written is refused by ErrArg, whatever the power is.
func wrongWrites(t *testing.T, d *Device) {
	t.Helper()
	n, off := d.Writes(), d.Off()
	for _, at := range wild {
		for _, many := range wrongSizes {
			writes(t, d, at, text(many), api.ErrArg)
		}
		if at < 0 || at >= d.Size() {
			writes(t, d, at, full("x"), api.ErrArg)
			readsNot(t, d, at, api.ErrArg)
		}
	}
	is(t, d, d.Size(), n, off)
}

func TestErrArgIsNamedFirst(t *testing.T) {
	for k := range 4 {
		d := newOf(t, 3)
		writes(t, d, 1, full("a"), api.OK)
		fuse(t, d, k)
		wrongWrites(t, d)
		reads(t, d, 0, noughts)
		reads(t, d, 1, full("a"))
		burns(t, d, k)
		wrongWrites(t, d)
		readsNot(t, d, 1, api.ErrOff)
		is(t, d, 3, 1+k, true)
		on(t, d)
		reads(t, d, 1, full("a"))
		lasts(t, d)
	}
}

// A write that is refused by ErrOff burns nothing of a fuse either: there is none any more.
func TestRefusedWritesDoNotBurn(t *testing.T) {
	d := newOf(t, 2)
	fuse(t, d, 2)
	writes(t, d, 2, full("a"), api.ErrArg)
	writes(t, d, 0, "a", api.ErrArg)
	reads(t, d, 0, noughts)
	readsNot(t, d, 2, api.ErrArg)
	burns(t, d, 2)
	for range 5 {
		writes(t, d, 0, full("d"), api.ErrOff)
	}
	is(t, d, 2, 2, true)
	on(t, d)
	reads(t, d, 0, full("b"))
}

// noDevice holds that it answers as one that New did not give.
func noDevice(t *testing.T, d *Device) {
	t.Helper()
	for range 2 {
		is(t, d, 0, 0, false)
		for _, at := range wild {
			writes(t, d, at, full("a"), api.ErrArg)
			writes(t, d, at, "", api.ErrArg)
			readsNot(t, d, at, api.ErrArg)
			answers(t, "Fuse", d.Fuse(at), api.ErrArg)
		}
		answers(t, "On", d.On(), api.ErrArg)
	}
}

func TestNoDevice(t *testing.T) {
	noDevice(t, nil)
	noDevice(t, &Device{})
	noDevice(t, new(Device))
	var d Device
	noDevice(t, &d)
	refused, _ := New(0)
	noDevice(t, refused)
}

func TestCopyIsNone(t *testing.T) {
	d := newOf(t, 2)
	writes(t, d, 0, full("a"), api.OK)
	twin := *d
	noDevice(t, &twin)
	is(t, d, 2, 1, false)
	reads(t, d, 0, full("a"))
	darken(t, d, 0)
	twin = *d
	noDevice(t, &twin)
	is(t, d, 2, 1, true)
}

// hand is a device by hand: a text for each block that was written.
type hand struct {
	n, done int
	off     bool
	armed   bool
	fuse    int
	blocks  map[int]string
}

func (h *hand) write(at int, s string) api.Errno {
	switch {
	case at < 0, at >= h.n, len(s) != size:
		return api.ErrArg
	case h.off:
		return api.ErrOff
	case h.armed && h.fuse == 0:
		h.off, h.armed = true, false
		return api.ErrOff
	}
	h.blocks[at] = s
	h.done++
	h.fuse--
	return api.OK
}

func (h *hand) read(at int) (string, api.Errno) {
	switch s, ok := h.blocks[at]; {
	case at < 0, at >= h.n:
		return "", api.ErrArg
	case h.off:
		return "", api.ErrOff
	case ok:
		return s, api.OK
	}
	return noughts, api.OK
}

// drawnText is mostly a block, and sometimes a text of another size.
func drawnText(draw *rand.Rand) string {
	if draw.Intn(8) == 0 {
		return drawn(draw, draw.Intn(130))
	}
	return drawn(draw, size)
}

// step does one drawn call on both.
func step(t *testing.T, draw *rand.Rand, d *Device, h *hand) {
	t.Helper()
	at := draw.Intn(h.n+4) - 2
	switch k := draw.Intn(20); {
	case k < 10:
		s := drawnText(draw)
		writes(t, d, at, s, h.write(at, s))
	case k < 16:
		s, e := d.Read(at)
		if want, wantErr := h.read(at); s != want || e != wantErr {
			t.Errorf("Read of %d: %x %d, not %x %d", at, s, e, want, wantErr)
		}
	case k < 18:
		n := draw.Intn(9) - 2
		fuse(t, d, n)
		h.armed, h.fuse = n >= 0, n
	default:
		on(t, d)
		h.off, h.armed = false, false
	}
	is(t, d, h.n, h.done, h.off)
}

func TestDrawnCalls(t *testing.T) {
	for seed := range 60 {
		draw := rand.New(rand.NewSource(int64(seed)))
		h := &hand{n: 1 + draw.Intn(7), blocks: map[int]string{}}
		d := newOf(t, h.n)
		for range 500 {
			step(t, draw, d, h)
		}
		on(t, d)
		h.off = false
		for at := range h.n {
			want, _ := h.read(at)
			reads(t, d, at, want)
		}
		if t.Failed() {
			t.Fatalf("at the seed %d", seed)
		}
	}
}

// Devices hang on nothing but the calls on them: many at once are each as one alone.
func TestManyAtOnce(t *testing.T) {
	var wait sync.WaitGroup
	for k := range 8 {
		wait.Go(func() {
			d, _ := New(k + 1)
			d.Fuse(k)
			for at := range k {
				writes(t, d, at, text(size), api.OK)
			}
			writes(t, d, k, text(size), api.ErrOff)
			is(t, d, k+1, k, true)
		})
	}
	wait.Wait()
}
