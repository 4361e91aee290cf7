package store

import (
	"crypto/sha256"
	"encoding/hex"
	"math/rand"
	"slices"
	"strings"
	"sync"
	"testing"
	"unsafe"

	"samphire/api"
	"samphire/block"
)

const (
	size    = 64
	maxTime = 1<<40 - 1
	most    = 1 << 15
)

// text is a text of n bytes, the same one in each run.
func text(n int) string { return drawn(rand.New(rand.NewSource(int64(n))), n) }

// drawn is a text of n bytes that a test draws.
func drawn(draw *rand.Rand, n int) string {
	b := make([]byte, n)
	draw.Read(b)
	return string(b)
}

func noughts(n int) string { return strings.Repeat("\x00", n) }

// big is a number as so many bytes, the highest first.
func big(n, size int) string {
	b := make([]byte, size)
	for k := range b {
		b[size-1-k] = byte(n)
		n /= 256
	}
	return string(b)
}

// asBytes are texts as bytes, by hand.
func asBytes(l ...string) string {
	all := ""
	for _, s := range l {
		all += big(len(s), 2) + s
	}
	return all
}

// sum8 are the first eight bytes of a Sum, by the library's own.
func sum8(s string) string {
	sum := sha256.Sum256([]byte(s))
	return string(sum[:8])
}

// headOf is a half's head, by hand.
func headOf(turn int, bytes string) string {
	return big(turn, 6) + big(len(bytes), 6) + sum8(bytes) + noughts(44)
}

func device(t *testing.T, n int) *block.Device {
	t.Helper()
	d, e := block.New(n)
	if e != api.OK {
		t.Fatalf("a device of %d blocks: the error %d", n, e)
	}
	return d
}

// set writes bytes onto a device, block by block, with noughts behind the last one.
func set(t *testing.T, d *block.Device, at int, bytes string) {
	t.Helper()
	for k := 0; k < len(bytes); k += size {
		b := bytes[k:min(k+size, len(bytes))]
		answers(t, "Write", d.Write(at+k/size, b+noughts(size-len(b))), api.OK)
	}
}

// setHalf writes, by hand, a half that is whole; in which one it is, its turn says.
func setHalf(t *testing.T, d *block.Device, turn int, l ...string) {
	t.Helper()
	setParts(t, d, turn%2, headOf(turn, asBytes(l...)), asBytes(l...))
}

// setParts writes what shall stand in a half, whole or not.
func setParts(t *testing.T, d *block.Device, half int, head, bytes string) {
	t.Helper()
	at := half * (d.Size() / 2)
	set(t, d, at+1, bytes)
	set(t, d, at, head)
}

// image is all that a device has, block by block; its power is on.
func image(t *testing.T, d *block.Device) []string {
	t.Helper()
	l := make([]string, d.Size())
	for k := range l {
		s, e := d.Read(k)
		answers(t, "Read", e, api.OK)
		l[k] = s
	}
	return l
}

// hasImage holds that a device has just these blocks.
func hasImage(t *testing.T, d *block.Device, want []string) {
	t.Helper()
	for k, s := range image(t, d) {
		if s != want[k] {
			t.Errorf("the block %d is %x, not %x", k, s, want[k])
		}
	}
}

// answers holds that a call answered this error.
func answers(t *testing.T, what string, e, want api.Errno) {
	t.Helper()
	if e != want {
		t.Errorf("%s: the error %d, not %d", what, e, want)
	}
}

func opened(t *testing.T, d *block.Device) *Store {
	t.Helper()
	s, e := Open(d)
	if s == nil || e != api.OK {
		t.Fatalf("Open: %v and the error %d", s != nil, e)
	}
	return s
}

// openNot holds that there is no store on a device.
func openNot(t *testing.T, d *block.Device, want api.Errno) {
	t.Helper()
	for range 2 {
		if s, e := Open(d); s != nil || e != want {
			t.Errorf("Open: %v and the error %d, not the error %d", s != nil, e, want)
		}
	}
}

// short is a text as a test tells it.
func short(s string) string {
	if len(s) > 20 {
		return s[:20] + ".."
	}
	return s
}

// is holds what a store tells of itself; asked twice, as asking changes nothing.
func is(t *testing.T, s *Store, turn int, base string, behind ...string) {
	t.Helper()
	for range 2 {
		if s.Turn() != turn {
			t.Errorf("the turn %d, not %d", s.Turn(), turn)
		}
		if s.Base() != base {
			t.Errorf("the base %q of %d bytes, not %q of %d", short(s.Base()), len(s.Base()), short(base), len(base))
		}
		if !slices.Equal(s.Behind(), behind) {
			t.Errorf("%d texts behind it, not these %d", len(s.Behind()), len(behind))
		}
	}
}

// holds is as is, also of a store that is opened anew; opening writes nothing.
func holds(t *testing.T, s *Store, d *block.Device, turn int, base string, behind ...string) {
	t.Helper()
	is(t, s, turn, base, behind...)
	n := d.Writes()
	is(t, opened(t, d), turn, base, behind...)
	if d.Writes() != n {
		t.Error("Open wrote a block")
	}
}

func add(t *testing.T, s *Store, l ...string) {
	t.Helper()
	for _, x := range l {
		answers(t, "Add", s.Add(x), api.OK)
	}
}

func lay(t *testing.T, s *Store, x string) {
	t.Helper()
	answers(t, "Lay", s.Lay(x), api.OK)
}

// darken puts the power off.
func darken(t *testing.T, d *block.Device) {
	t.Helper()
	answers(t, "Fuse", d.Fuse(0), api.OK)
	answers(t, "Write", d.Write(0, noughts(size)), api.ErrOff)
	if !d.Off() {
		t.Error("the power is on")
	}
}

// full holds that a call is refused by ErrFull, and that it has written nothing and changed nothing: with a fuse of 0 a write would put the power off.
func full(t *testing.T, s *Store, d *block.Device, call func(string) api.Errno, x string) {
	t.Helper()
	turn, base, behind := s.Turn(), s.Base(), s.Behind()
	was, n := image(t, d), d.Writes()
	answers(t, "of a full store", call(x), api.ErrFull)
	answers(t, "Fuse", d.Fuse(0), api.OK)
	answers(t, "with a fuse of 0", call(x), api.ErrFull)
	if d.Off() || d.Writes() != n {
		t.Error("a block was to be written")
	}
	answers(t, "Fuse", d.Fuse(-1), api.OK)
	hasImage(t, d, was)
	holds(t, s, d, turn, base, behind...)
	darken(t, d)
	answers(t, "with the power off", call(x), api.ErrFull)
	answers(t, "On", d.On(), api.OK)
	holds(t, s, d, turn, base, behind...)
}

func TestExample(t *testing.T) {
	d := device(t, 20)
	s := opened(t, d)
	lay(t, s, "a")
	add(t, s, "b")
	holds(t, s, d, 1, "a", "b")
}

func TestOpenOfNoDevice(t *testing.T) {
	openNot(t, nil, api.ErrArg)
	openNot(t, &block.Device{}, api.ErrArg)
	one := device(t, 1)
	openNot(t, one, api.ErrArg)
	set(t, one, 0, headOf(2, asBytes("a")))
	openNot(t, one, api.ErrArg)
	darken(t, one)
	openNot(t, one, api.ErrArg)
	two := device(t, 2)
	twin := *two
	openNot(t, &twin, api.ErrArg)
	opened(t, two)
}

func TestOpenWhileOff(t *testing.T) {
	for _, n := range []int{2, 3, 20, 4096} {
		d := device(t, n)
		lays := n > 3
		if lays {
			lay(t, opened(t, d), "a")
		}
		darken(t, d)
		openNot(t, d, api.ErrOff)
		answers(t, "On", d.On(), api.OK)
		if lays {
			is(t, opened(t, d), 1, "a")
		} else {
			is(t, opened(t, d), 0, "")
		}
	}
}

// A fuse of 0 is no power that is off: what is read burns nothing.
func TestOpenWithAFuse(t *testing.T) {
	d := device(t, 20)
	lay(t, opened(t, d), "a")
	answers(t, "Fuse", d.Fuse(0), api.OK)
	is(t, opened(t, d), 1, "a")
	if d.Off() {
		t.Error("the power is off")
	}
}

func TestOpenOfNoughts(t *testing.T) {
	for _, n := range []int{2, 3, 4, 5, 20, 21, 4095, 4096} {
		d := device(t, n)
		holds(t, opened(t, d), d, 0, "")
		if d.Writes() != 0 {
			t.Error("Open wrote a block")
		}
	}
}

func TestNoRoomAtAll(t *testing.T) {
	for _, n := range []int{2, 3} {
		d := device(t, n)
		s := opened(t, d)
		for _, x := range []string{"", "a", text(most), text(most + 1)} {
			full(t, s, d, s.Lay, x)
			full(t, s, d, s.Add, x)
		}
		hasImage(t, d, slices.Repeat([]string{noughts(size)}, n))
	}
}

// The last block of an odd number of them belongs to no half: it is neither written nor read.
func TestOddBlocks(t *testing.T) {
	for _, n := range []int{5, 7, 9, 21} {
		d := device(t, n)
		h := n / 2
		set(t, d, n-1, text(size))
		s := opened(t, d)
		is(t, s, 0, "")
		just := text((h-1)*size - 2)
		for turn := 1; turn < 5; turn++ {
			full(t, s, d, s.Lay, just+"x")
			lay(t, s, just)
			holds(t, s, d, turn, just)
			full(t, s, d, s.Add, "")
			l := image(t, d)
			if at := turn % 2 * h; l[at] != headOf(turn, asBytes(just)) || strings.Join(l[at+1:at+h], "") != asBytes(just) {
				t.Errorf("%d blocks: not the bytes of the turn %d", n, turn)
			}
			if l[n-1] != text(size) {
				t.Errorf("%d blocks: the last one was written", n)
			}
		}
		// Were the last block one of the second half, this one would be whole.
		long := text(h*size - 2)
		set(t, d, h+1, asBytes(long))
		set(t, d, h, headOf(7, asBytes(long)))
		is(t, opened(t, d), 4, just)
	}
}

func TestBytesBehindLayAndAdd(t *testing.T) {
	d := device(t, 8)
	want := image(t, d)
	s := opened(t, d)
	lay(t, s, "a")
	want[5] = "\x00\x01a" + noughts(61)
	want[4] = "\x00\x00\x00\x00\x00\x01" + "\x00\x00\x00\x00\x00\x03" + sum8("\x00\x01a") + noughts(44)
	hasImage(t, d, want)
	add(t, s, "b")
	want[5] = "\x00\x01a\x00\x01b" + noughts(58)
	want[4] = "\x00\x00\x00\x00\x00\x01" + "\x00\x00\x00\x00\x00\x06" + sum8("\x00\x01a\x00\x01b") + noughts(44)
	hasImage(t, d, want)
	add(t, s, "", strings.Repeat("c", 60))
	all := "\x00\x01a\x00\x01b\x00\x00\x00\x3c" + strings.Repeat("c", 60)
	want[5], want[6] = all[:64], all[64:]+noughts(128-len(all))
	want[4] = "\x00\x00\x00\x00\x00\x01" + "\x00\x00\x00\x00\x00\x46" + sum8(all) + noughts(44)
	hasImage(t, d, want)
	lay(t, s, "")
	want[1] = noughts(64)
	want[0] = "\x00\x00\x00\x00\x00\x02" + "\x00\x00\x00\x00\x00\x02" + sum8("\x00\x00") + noughts(44)
	hasImage(t, d, want)
	// What lies behind is left as it was: the third turn has less than the first one had.
	lay(t, s, "z")
	want[5] = "\x00\x01z" + noughts(61)
	want[4] = "\x00\x00\x00\x00\x00\x03" + "\x00\x00\x00\x00\x00\x03" + sum8("\x00\x01z") + noughts(44)
	hasImage(t, d, want)
	holds(t, s, d, 3, "z")
}

// The head of the chapter's example, as digits that nothing here works out.
func TestHeadAsDigits(t *testing.T) {
	d := device(t, 4)
	s := opened(t, d)
	lay(t, s, "a")
	add(t, s, "b")
	if got := hex.EncodeToString([]byte(image(t, d)[2])); got != "000000000001000000000006e168af95ee8e070a"+strings.Repeat("00", 44) {
		t.Error(got)
	}
}

// bad is a half that is not whole, for one reason alone; all has been put right for it but that.
type bad struct {
	why         string
	head, bytes string
}

// turned is a text with the byte at a place turned.
func turned(s string, at int, by byte) string {
	b := []byte(s)
	b[at] ^= by
	return string(b)
}

// badHalves are halves of a turn that are not whole.
func badHalves(turn int) []bad {
	fine := asBytes("base", "one", text(70))
	head := headOf(turn, fine)
	l := []bad{
		{"a turn above MaxTime", turned(head, 0, 1), fine},
		{"a turn far above MaxTime", turned(head, 0, 128), fine},
		{"a number of bytes above MaxTime", turned(head, 6, 1), fine},
		{"a number of bytes far above MaxTime", turned(head, 6, 128), fine},
		{"another byte of the number of bytes", turned(head, 7, 1), fine},
		{"one byte less", big(turn, 6) + big(len(fine)-1, 6) + head[12:], fine},
		{"one byte more", big(turn, 6) + big(len(fine)+1, 6) + head[12:], fine},
		{"no bytes", big(turn, 6) + big(0, 6) + head[12:], fine},
		{"the turn of the other half", headOf(turn+1, fine), fine},
		{"the turn of the other half, below", headOf(turn-1, fine), fine},
		{"the most bytes", big(turn, 6) + big(maxTime, 6) + head[12:], fine},
		{"noughts", noughts(size), fine},
		{"no text", headOf(turn, ""), ""},
		{"no text, bytes behind", headOf(turn, ""), fine},
		{"half a length", headOf(turn, "\x00"), "\x00"},
		{"half a length behind a text", headOf(turn, fine+"\x00"), fine + "\x00"},
		{"one byte less than a text has", headOf(turn, fine[:len(fine)-1]), fine[:len(fine)-1]},
		{"one byte more than a text has", headOf(turn, fine+"a"), fine + "a"},
		{"a length alone", headOf(turn, "\x00\x01"), "\x00\x01"},
		{"the length of more than there is room", headOf(turn, "\x7f\xff"+fine), "\x7f\xff" + fine},
	}
	for at := 12; at < size; at++ {
		l = append(l, bad{"another byte of the Sum, or behind it", turned(head, at, 1<<(at%8)), fine})
	}
	for at := range len(fine) {
		l = append(l, bad{"another byte of the texts", head, turned(fine, at, 1<<(at%8))})
	}
	if turn%2 == 0 {
		l = append(l, bad{"a turn of 0", headOf(0, fine), fine})
	}
	return l
}

func TestNotWhole(t *testing.T) {
	for _, turn := range []int{2, 3, 4, 5, 258, 259, maxTime - 2, maxTime - 1} {
		for _, b := range badHalves(turn) {
			d := device(t, 12)
			setParts(t, d, turn%2, b.head, b.bytes)
			is(t, opened(t, d), 0, "")
			for _, other := range []int{turn - 1, turn + 1} {
				setHalf(t, d, other, "other", "", "two")
				is(t, opened(t, d), other, "other", "", "two")
			}
			if t.Failed() {
				t.Fatalf("the turn %d: %s", turn, b.why)
			}
		}
	}
}

// What the halves above were made of is whole, so that each of them has its one reason.
func TestWhole(t *testing.T) {
	for _, turn := range []int{1, 2, 3, 4, 258, 259, 1 << 32, 1<<32 + 1, maxTime - 1, maxTime} {
		d := device(t, 12)
		setHalf(t, d, turn, "base", "one", text(70))
		is(t, opened(t, d), turn, "base", "one", text(70))
	}
}

// Behind the texts' bytes there may be anything: no word of what is whole speaks of it.
func TestBytesBehindTheTexts(t *testing.T) {
	for _, turn := range []int{2, 3} {
		d := device(t, 12)
		fine := asBytes("base", "one")
		setParts(t, d, turn%2, headOf(turn, fine), fine+text(200))
		s := opened(t, d)
		is(t, s, turn, "base", "one")
		add(t, s, "two")
		holds(t, s, d, turn, "base", "one", "two")
		all := asBytes("base", "one", "two")
		if got := image(t, d)[turn%2*6+1]; got != all+noughts(size-len(all)) {
			t.Errorf("%x", got)
		}
	}
}

// A half is not whole when its bytes go on where it has no room: in the other half, or in the block that belongs to none.
func TestMoreBytesThanRoom(t *testing.T) {
	const room = 3 * size
	for _, n := range []int{8, 9} {
		d := device(t, n)
		setHalf(t, d, 2, text(room-2))
		is(t, opened(t, d), 2, text(room-2))
		// The byte behind the first half is the first one of the other half's head: a nought.
		long := text(room-2) + "\x00"
		set(t, d, 0, headOf(2, asBytes(long)))
		is(t, opened(t, d), 0, "")
		setHalf(t, d, 1, "other")
		is(t, opened(t, d), 1, "other")
	}
	d := device(t, 9)
	for _, more := range []int{1, 2, size} {
		long := text(room - 2 + more)
		set(t, d, 5, asBytes(long))
		set(t, d, 4, headOf(3, asBytes(long)))
		is(t, opened(t, d), 0, "")
	}
	long := text(room - 2)
	set(t, d, 5, asBytes(long))
	set(t, d, 4, headOf(3, asBytes(long)))
	is(t, opened(t, d), 3, long)
}

func TestTextsOfTheMostBytes(t *testing.T) {
	const n = 4096
	long, longer := text(most), text(most+1)
	for _, turn := range []int{2, 3} {
		d := device(t, n)
		setHalf(t, d, turn, long, "a", long)
		is(t, opened(t, d), turn, long, "a", long)
		for _, l := range [][]string{{longer}, {longer, "a"}, {"a", longer}, {long, longer, "a"}, {text(1<<16 - 1)}} {
			setHalf(t, d, turn, l...)
			is(t, opened(t, d), 0, "")
		}
		setHalf(t, d, turn-1, "other")
		is(t, opened(t, d), turn-1, "other")
	}
}

func TestTwoHalvesThatAreWhole(t *testing.T) {
	for _, p := range [][2]int{{1, 2}, {2, 3}, {3, 4}, {1, 258}, {2, 259}, {255, 256}, {256, 511}, {1<<32 - 1, 1 << 32}, {1, maxTime - 1}, {2, maxTime}, {maxTime - 1, maxTime}} {
		d := device(t, 12)
		setHalf(t, d, p[1], "new", "n")
		setHalf(t, d, p[0], "old", "o", "o")
		s := opened(t, d)
		is(t, s, p[1], "new", "n")
		add(t, s, "m")
		holds(t, s, d, p[1], "new", "n", "m")
		// Once the greater one is not whole, the other one is there yet.
		set(t, d, p[1]%2*6, noughts(size))
		is(t, opened(t, d), p[0], "old", "o", "o")
	}
}

func TestAddAtTurn0(t *testing.T) {
	for _, n := range []int{2, 5, 20, 4096} {
		d := device(t, n)
		s := opened(t, d)
		for _, x := range []string{"", "a", text(most), text(most + 1)} {
			full(t, s, d, s.Add, x)
		}
		if d.Writes() != 0 {
			t.Error("a block was written")
		}
	}
}

func TestTheLongestText(t *testing.T) {
	d := device(t, 4096)
	s := opened(t, d)
	long, longer := text(most), text(most+1)
	full(t, s, d, s.Lay, longer)
	lay(t, s, long)
	holds(t, s, d, 1, long)
	full(t, s, d, s.Add, longer)
	full(t, s, d, s.Add, text(1<<16-1))
	full(t, s, d, s.Add, text(1<<16))
	full(t, s, d, s.Lay, text(1<<17))
	add(t, s, long)
	holds(t, s, d, 1, long, long)
	full(t, s, d, s.Lay, longer)
	lay(t, s, long)
	holds(t, s, d, 2, long)
}

// All texts together may have more bytes than layer 9 writes at once.
func TestAsManyBytesAsThereIsRoom(t *testing.T) {
	const room = 2047 * size
	d := device(t, 4096)
	s := opened(t, d)
	lay(t, s, text(most))
	l := []string{text(most), text(most - 1)}
	add(t, s, l...)
	left := room - len(asBytes(text(most), l[0], l[1])) - 2
	if left < 1 || left >= most {
		t.Fatal(left)
	}
	full(t, s, d, s.Add, text(left+1))
	add(t, s, text(left))
	l = append(l, text(left))
	holds(t, s, d, 1, text(most), l...)
	full(t, s, d, s.Add, "")
	bytes := asBytes(append([]string{text(most)}, l...)...)
	if len(bytes) != room || strings.Join(image(t, d)[2049:], "") != bytes || image(t, d)[2048] != headOf(1, bytes) {
		t.Error("not the bytes of the half")
	}
	lay(t, s, "a")
	holds(t, s, d, 2, "a")
}

func TestJustRoom(t *testing.T) {
	for _, n := range []int{4, 5, 6, 8, 20} {
		room := (n/2 - 1) * size
		for _, ahead := range [][]string{{""}, {"", ""}, {"base"}, {"base", "one"}, {text(60)}, {text(50), "a", "bcd"}} {
			bytes := len(asBytes(ahead...))
			if bytes+2 > room {
				continue
			}
			d := device(t, n)
			s := opened(t, d)
			lay(t, s, ahead[0])
			add(t, s, ahead[1:]...)
			just := text(room - bytes - 2)
			full(t, s, d, s.Add, just+"x")
			full(t, s, d, s.Add, text(room))
			add(t, s, just)
			holds(t, s, d, 1, ahead[0], append(slices.Clone(ahead[1:]), just)...)
			for _, x := range []string{"", "a"} {
				full(t, s, d, s.Add, x)
			}
			// The other half has room of its own.
			full(t, s, d, s.Lay, text(room-1))
			lay(t, s, text(room-2))
			holds(t, s, d, 2, text(room-2))
		}
	}
}

// One byte of room is none for a text: its length has two.
func TestOneByteOfRoom(t *testing.T) {
	d := device(t, 4)
	s := opened(t, d)
	lay(t, s, text(61))
	full(t, s, d, s.Add, "")
	lay(t, s, text(60))
	add(t, s, "")
	holds(t, s, d, 2, text(60), "")
}

func TestLastTurn(t *testing.T) {
	d := device(t, 12)
	setHalf(t, d, maxTime-2, "a")
	s := opened(t, d)
	lay(t, s, "b")
	holds(t, s, d, maxTime-1, "b")
	lay(t, s, "c")
	holds(t, s, d, maxTime, "c")
	for _, x := range []string{"", "d", text(most + 1)} {
		full(t, s, d, s.Lay, x)
	}
	add(t, s, "e", "")
	holds(t, s, d, maxTime, "c", "e", "")
	s = opened(t, d)
	full(t, s, d, s.Lay, "f")
}

// writesOf are the blocks that a call of a text writes, in their order: those in which its bytes lie, and the head.
func writesOf(n, turn, ahead int, x string) []int {
	head := turn % 2 * (n / 2)
	var l []int
	for k := ahead / size; k*size < ahead+2+len(x); k++ {
		l = append(l, head+1+k)
	}
	return append(l, head)
}

// state is what a store has.
type state struct {
	turn  int
	texts []string
}

func (s state) add(x string) state {
	return state{s.turn, append(slices.Clone(s.texts), x)}
}

func (s state) lay(x string) state { return state{s.turn + 1, []string{x}} }

// holdsState is as is.
func holdsState(t *testing.T, s *Store, want state) {
	t.Helper()
	if want.turn == 0 {
		is(t, s, 0, "")
		return
	}
	is(t, s, want.turn, want.texts[0], want.texts[1:]...)
}

// call is Add or Lay, of a text.
type call struct {
	lay bool
	x   string
}

func (c call) on(s *Store) api.Errno {
	if c.lay {
		return s.Lay(c.x)
	}
	return s.Add(c.x)
}

// behind is what a store has behind a call that is done, and which blocks that writes, in their order.
func (c call) behind(n int, s state) (state, []int) {
	if c.lay {
		return s.lay(c.x), writesOf(n, s.turn+1, 0, c.x)
	}
	return s.add(c.x), writesOf(n, s.turn, len(asBytes(s.texts...)), c.x)
}

// cut does a call with a fuse, on a device of n blocks as a row of calls left it, and holds what it answers, which blocks it writes, and what there is behind it.
func cut(t *testing.T, n int, row []call, c call, fuse int) {
	t.Helper()
	d := device(t, n)
	s := opened(t, d)
	var was state
	for _, r := range row {
		answers(t, "a call of the row", r.on(s), api.OK)
		was, _ = r.behind(n, was)
	}
	holdsState(t, s, was)
	will, places := c.behind(n, was)
	before, count := image(t, d), d.Writes()
	answers(t, "Fuse", d.Fuse(fuse), api.OK)
	want, then, done := api.OK, will, len(places)
	if fuse >= 0 && fuse < len(places) {
		want, then, done = api.ErrOff, was, fuse
	}
	answers(t, "the call", c.on(s), want)
	if d.Off() != (want == api.ErrOff) || d.Writes() != count+done {
		t.Errorf("%d writes, not %d; the power is off: %v", d.Writes()-count, done, d.Off())
	}
	if want == api.OK {
		holdsState(t, s, then)
	} else {
		openNot(t, d, api.ErrOff)
	}
	answers(t, "On", d.On(), api.OK)
	hasImage(t, d, blocksBehind(n, before, will, places[:done]))
	s = opened(t, d)
	holdsState(t, s, then)
	// And it goes on from there.
	if want == api.ErrOff {
		answers(t, "the call anew", c.on(s), api.OK)
		holdsState(t, s, will)
		holdsState(t, opened(t, d), will)
	}
}

// blocksBehind is what a device has, once these blocks are written of what shall be.
func blocksBehind(n int, before []string, will state, places []int) []string {
	l := slices.Clone(before)
	bytes := asBytes(will.texts...)
	all := headOf(will.turn, bytes) + bytes
	all += noughts((size - len(all)%size) % size)
	for _, at := range places {
		k := at - will.turn%2*(n/2)
		l[at] = all[k*size : (k+1)*size]
	}
	return l
}

// rows are what may have been done ahead of a call: nothing, one turn and some, texts that end within a block, at its end, and just behind it.
func rows() [][]call {
	return [][]call{
		nil,
		{{true, ""}},
		{{true, "a"}, {false, "b"}},
		{{true, text(61)}},
		{{true, text(62)}},
		{{true, text(63)}},
		{{true, text(62)}, {false, text(62)}, {false, text(20)}},
		{{true, text(300)}, {false, "b"}, {true, "c"}},
		{{true, text(300)}, {true, text(290)}, {false, text(30)}},
		{{true, text(300)}, {true, text(290)}, {true, "d"}},
		{{true, "a"}, {true, "b"}, {true, "c"}, {false, text(100)}, {false, ""}, {false, "x"}},
	}
}

// St2's order of blocks, and St3: at each number of writes.
func TestFuses(t *testing.T) {
	const n = 21
	for _, row := range rows() {
		for _, x := range []string{"", "z", text(57), text(60), text(61), text(62), text(63), text(64), text(126), text(127), text(200)} {
			for _, lays := range []bool{true, false} {
				if !lays && row == nil {
					continue
				}
				for fuse := -1; fuse < 8; fuse++ {
					cut(t, n, row, call{lays, x}, fuse)
				}
			}
		}
	}
}

// The same text again: each block that is written has already what it shall have.
func TestFusesOfTheSameText(t *testing.T) {
	row := []call{{true, text(200)}, {true, text(200)}, {true, text(200)}, {false, text(70)}}
	for fuse := -1; fuse < 8; fuse++ {
		cut(t, 20, row, call{true, text(200)}, fuse)
		cut(t, 20, row, call{false, text(70)}, fuse)
	}
}

// Power that fails again and again at the same call takes nothing away.
func TestManyFuses(t *testing.T) {
	d := device(t, 30)
	s := opened(t, d)
	lay(t, s, "a")
	add(t, s, text(100), "c")
	for fuse := range 6 {
		for _, c := range []call{{true, text(320)}, {false, text(321)}, {false, text(322)}, {true, text(323)}} {
			answers(t, "Fuse", d.Fuse(fuse), api.OK)
			answers(t, "the call", c.on(s), api.ErrOff)
			answers(t, "On", d.On(), api.OK)
			s = opened(t, d)
			is(t, s, 1, "a", text(100), "c")
		}
	}
	add(t, s, "d")
	holds(t, s, d, 1, "a", text(100), "c", "d")
	lay(t, s, "e")
	holds(t, s, d, 2, "e")
}

func TestOff(t *testing.T) {
	d := device(t, 12)
	s := opened(t, d)
	darken(t, d)
	answers(t, "Lay at the turn 0", s.Lay("a"), api.ErrOff)
	answers(t, "On", d.On(), api.OK)
	s = opened(t, d)
	lay(t, s, "a")
	add(t, s, "b")
	n, was := d.Writes(), image(t, d)
	for _, x := range []string{"", "c", text(300)} {
		for _, lays := range []bool{true, false} {
			s = opened(t, d)
			darken(t, d)
			answers(t, "with the power off", call{lays, x}.on(s), api.ErrOff)
			answers(t, "On", d.On(), api.OK)
			is(t, opened(t, d), 1, "a", "b")
		}
	}
	if d.Writes() != n {
		t.Error("a block was written")
	}
	hasImage(t, d, was)
}

// With the power off a store yet tells what it has.
func TestAskedWhileOff(t *testing.T) {
	d := device(t, 12)
	s := opened(t, d)
	lay(t, s, "a")
	add(t, s, "b")
	darken(t, d)
	is(t, s, 1, "a", "b")
}

func TestBehindIsNotShared(t *testing.T) {
	d := device(t, 12)
	s := opened(t, d)
	lay(t, s, "a")
	add(t, s, "b", "c")
	l := s.Behind()
	l[0], l[1] = "x", "y"
	l = append(l[:1], "z", "z")
	holds(t, s, d, 1, "a", "b", "c")
	l = s.Behind()
	add(t, s, "d")
	lay(t, s, "e")
	add(t, s, "f")
	if !slices.Equal(l, []string{"b", "c"}) {
		t.Error("what was given was changed", l)
	}
	_ = append(s.Behind(), "g")
	_ = append(s.Behind()[:0], "h")
	holds(t, s, d, 2, "e", "f")
}

// The text lies in memory that is changed behind the call, as no ordinary text's may be: the store has bytes of its own.
func TestTextsAreNotKept(t *testing.T) {
	d := device(t, 40)
	s := opened(t, d)
	b := []byte(text(300))
	lay(t, s, unsafe.String(&b[100], 100))
	add(t, s, unsafe.String(&b[0], 80))
	if string(b) != text(300) {
		t.Error("what was handed in was changed")
	}
	clear(b)
	holds(t, s, d, 1, text(300)[100:200], text(300)[:80])
}

func TestTextsOfAllBytes(t *testing.T) {
	d := device(t, 40)
	s := opened(t, d)
	all := ""
	for k := range 256 {
		all += string([]byte{byte(k)})
	}
	lay(t, s, all)
	add(t, s, noughts(130), "é", "\xff\xfe")
	holds(t, s, d, 1, all, noughts(130), "é", "\xff\xfe")
	lay(t, s, noughts(64))
	holds(t, s, d, 2, noughts(64))
}

func TestEmptyTexts(t *testing.T) {
	d := device(t, 8)
	s := opened(t, d)
	lay(t, s, "")
	holds(t, s, d, 1, "")
	// 192 bytes: the base, and 95 behind it.
	for k := range 95 {
		add(t, s, "")
		is(t, s, 1, "", make([]string, k+1)...)
	}
	holds(t, s, d, 1, "", make([]string, 95)...)
	full(t, s, d, s.Add, "")
}

// noStore holds that it answers as one that Open did not give.
func noStore(t *testing.T, s *Store) {
	t.Helper()
	for range 2 {
		is(t, s, 0, "")
		for _, x := range []string{"", "a", text(most), text(most + 1)} {
			answers(t, "Add", s.Add(x), api.ErrArg)
			answers(t, "Lay", s.Lay(x), api.ErrArg)
		}
	}
}

func TestNoStore(t *testing.T) {
	noStore(t, nil)
	noStore(t, &Store{})
	noStore(t, new(Store))
	var s Store
	noStore(t, &s)
	refused, _ := Open(nil)
	noStore(t, refused)
}

func TestCopyIsNone(t *testing.T) {
	d := device(t, 12)
	s := opened(t, d)
	twin := *s
	noStore(t, &twin)
	lay(t, s, "a")
	add(t, s, "b")
	n := d.Writes()
	twin = *s
	noStore(t, &twin)
	darken(t, d)
	noStore(t, &twin)
	answers(t, "On", d.On(), api.OK)
	if d.Writes() != n {
		t.Error("a copy wrote")
	}
	holds(t, s, d, 1, "a", "b")
}

// A device that is no more one, since it was overwritten, is refused somehow, and nothing panics.
func TestDeviceThatIsNoneAnyMore(t *testing.T) {
	d := device(t, 12)
	s := opened(t, d)
	lay(t, s, "a")
	*d = block.Device{}
	for _, c := range []call{{true, "b"}, {false, "b"}} {
		if c.on(s) == api.OK {
			t.Error("it was written onto no device")
		}
	}
	is(t, s, 1, "a")
}

// fits tells, by hand, whether a call is done as far as room goes.
func fits(n int, s state, c call) bool {
	ahead := 0
	if !c.lay {
		if s.turn == 0 {
			return false
		}
		ahead = len(asBytes(s.texts...))
	}
	return len(c.x) <= most && ahead+2+len(c.x) <= (n/2-1)*size
}

// step does one drawn call, sometimes with a fuse, beside a store by hand; it opens anew where it must, and now and then.
func step(t *testing.T, draw *rand.Rand, d *block.Device, s *Store, h *state) *Store {
	t.Helper()
	c := call{draw.Intn(4) == 0, drawn(draw, draw.Intn(90))}
	if draw.Intn(6) == 0 {
		c.x = drawn(draw, draw.Intn(900))
	}
	fuse := draw.Intn(12) - 4
	answers(t, "Fuse", d.Fuse(fuse), api.OK)
	e := c.on(s)
	if !fits(d.Size(), *h, c) {
		answers(t, "a call without room", e, api.ErrFull)
	} else if will, places := c.behind(d.Size(), *h); fuse >= 0 && fuse < len(places) {
		answers(t, "a call with a fuse", e, api.ErrOff)
	} else {
		answers(t, "a call", e, api.OK)
		*h = will
	}
	if d.Off() != (e == api.ErrOff) {
		t.Errorf("the power is off: %v, behind the error %d", d.Off(), e)
	}
	if e == api.ErrOff || draw.Intn(4) == 0 {
		answers(t, "On", d.On(), api.OK)
		s = opened(t, d)
	}
	holdsState(t, s, *h)
	return s
}

func TestDrawnCalls(t *testing.T) {
	for seed := range 80 {
		draw := rand.New(rand.NewSource(int64(seed)))
		d := device(t, 2+draw.Intn(24))
		s := opened(t, d)
		var h state
		for range 300 {
			s = step(t, draw, d, s, &h)
		}
		answers(t, "On", d.On(), api.OK)
		holdsState(t, opened(t, d), h)
		if t.Failed() {
			t.Fatalf("at the seed %d", seed)
		}
	}
}

// Whatever a device has, Open ends, and what it gives can be laid anew.
func TestDrawnDevices(t *testing.T) {
	for seed := range 300 {
		draw := rand.New(rand.NewSource(int64(seed)))
		d := device(t, 4+draw.Intn(9))
		for k := range d.Size() {
			b := drawn(draw, size)
			if draw.Intn(2) == 0 {
				b = big(draw.Intn(6), 6) + big(draw.Intn(300), 6) + b[:8] + noughts(44)
			}
			set(t, d, k, b)
		}
		s := opened(t, d)
		is(t, s, 0, "")
		lay(t, s, "a")
		holds(t, s, d, 1, "a")
	}
}

// Stores hang on nothing but their devices and the calls on them: many at once are each as one alone.
func TestManyAtOnce(t *testing.T) {
	var wait sync.WaitGroup
	for k := range 8 {
		wait.Go(func() {
			d, _ := block.New(20 + k)
			s, _ := Open(d)
			lay(t, s, text(k))
			for range k {
				add(t, s, text(40))
			}
			holds(t, s, d, 1, text(k), slices.Repeat([]string{text(40)}, k)...)
		})
	}
	wait.Wait()
}
