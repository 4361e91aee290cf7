package pad

import (
	"bytes"
	"math"
	"math/bits"
	"math/rand"
	"slices"
	"strings"
	"sync"
	"testing"

	"samphire/api"
)

// all are the sizes as the chapter says them.
var all = []int{64, 128, 256, 512, 1024, 2048, 4096, 8192, 16384}

func noughts(n int) string { return strings.Repeat("\x00", n) }

// drawn is a text of n drawn bytes.
func drawn(draw *rand.Rand, n int) string {
	b := make([]byte, n)
	draw.Read(b)
	return string(b)
}

// otherSize is the size of so many bytes, by how many bits the number has.
func otherSize(n int) int { return max(64, 1<<bits.Len(uint(n))) }

// otherPad is a padded text, laid into bytes that are noughts.
func otherPad(s string) string {
	b := make([]byte, otherSize(len(s)))
	copy(b, s)
	b[len(s)] = 0x80
	return string(b)
}

// otherUnpad is the text of one that was padded, by the last byte that is no nought.
func otherUnpad(s string) (string, bool) {
	end := len(s) - 1
	for end >= 0 && s[end] == 0 {
		end--
	}
	if end < 0 || s[end] != 0x80 || !slices.Contains(all, len(s)) || otherSize(end) != len(s) {
		return "", false
	}
	return s[:end], true
}

// edges are how many bytes texts have around each size.
func edges() []int {
	l := []int{0, 1, 2, 31, 32, 33}
	for _, size := range all {
		for n := size - 2; n <= size+2; n++ {
			if n < 1<<14 {
				l = append(l, n)
			}
		}
	}
	return l
}

// texts are such of n bytes: among them those that end as padding does.
func texts(n int) []string {
	l := []string{noughts(n), strings.Repeat("\x80", n), strings.Repeat("a", n), strings.Repeat("\xff", n), drawn(rand.New(rand.NewSource(int64(n))), n)}
	for _, end := range []string{"\x80", "\x00", "\x80\x00", "\x00\x80", "\x80\x00\x00", "\x80\x80", "a\x80", "\x80a", "\x80" + noughts(40)} {
		if len(end) <= n {
			l = append(l, strings.Repeat("b", n-len(end))+end)
		}
	}
	return l
}

// hasSize holds that a text of n bytes is padded to a size.
func hasSize(t *testing.T, n, want int) {
	t.Helper()
	if got, e := Size(n); got != want || e != api.OK {
		t.Errorf("Size of %d: %d %d, not %d", n, got, e, want)
	}
}

// hasNoSize holds that there is no size for n bytes.
func hasNoSize(t *testing.T, n int) {
	t.Helper()
	if got, e := Size(n); got != 0 || e != api.ErrFull {
		t.Errorf("Size of %d: %d %d, not ErrFull", n, got, e)
	}
}

// pads holds that a text is padded so, and unpadded again.
func pads(t *testing.T, s, want string) {
	t.Helper()
	if got, e := Pad(s); got != want || e != api.OK {
		t.Errorf("Pad of %d bytes %.80x: %d bytes %.80x %d, not %d bytes %.80x", len(s), s, len(got), got, e, len(want), want)
	}
	if got, e := Unpad(want); got != s || e != api.OK {
		t.Errorf("Unpad of %d bytes %.80x: %d bytes %.80x %d, not %d bytes %.80x", len(want), want, len(got), got, e, len(s), s)
	}
}

// padsNot holds that a text is too long.
func padsNot(t *testing.T, s string) {
	t.Helper()
	if got, e := Pad(s); got != "" || e != api.ErrFull {
		t.Errorf("Pad of %d bytes: %d bytes %d, not ErrFull", len(s), len(got), e)
	}
}

// unpadsNot holds that a text was not padded.
func unpadsNot(t *testing.T, s string) {
	t.Helper()
	if got, e := Unpad(s); got != "" || e != api.ErrPad {
		t.Errorf("Unpad of %d bytes %.80x: %d bytes %.80x %d, not ErrPad", len(s), s, len(got), got, e)
	}
}

// unpadsAsOther holds that bytes are unpadded as the other way tells, and tells whether they were.
func unpadsAsOther(t *testing.T, s string) bool {
	t.Helper()
	want, may := otherUnpad(s)
	if !may {
		unpadsNot(t, s)
		return false
	}
	pads(t, want, s)
	return true
}

// Pd1: Sizes.

func TestSizes(t *testing.T) {
	if got := Sizes(); !slices.Equal(got, all) {
		t.Errorf("Sizes: %v", got)
	}
}

func TestSizesThatAreWrittenOver(t *testing.T) {
	first, second := Sizes(), Sizes()
	for i := range first {
		first[i] = -7
	}
	_ = append(first[:0], 1, 2, 3)
	_ = append(first, 4, 5, 6)
	if !slices.Equal(second, all) || !slices.Equal(Sizes(), all) {
		t.Errorf("Sizes: %v, and then %v", second, Sizes())
	}
	for _, size := range all {
		hasSize(t, size-1, size)
	}
	pads(t, "a", "a\x80"+noughts(62))
}

// Pd1: Size.

func TestExample(t *testing.T) {
	hasSize(t, 63, 64)
	hasSize(t, 64, 128)
}

func TestSizeAtTheEdges(t *testing.T) {
	hasSize(t, 0, 64)
	hasSize(t, 1, 64)
	for i, size := range all {
		hasSize(t, size-1, size)
		if i+1 < len(all) {
			hasSize(t, size, all[i+1])
			hasSize(t, size+1, all[i+1])
		}
	}
	hasSize(t, 1<<14-1, 1<<14)
}

func TestSizeOfEachNumber(t *testing.T) {
	for n := range 1 << 14 {
		hasSize(t, n, otherSize(n))
	}
	for n := 1 << 14; n < 1<<17; n++ {
		hasNoSize(t, n)
	}
	for n := -1 << 15; n < 0; n++ {
		hasNoSize(t, n)
	}
}

func TestSizeOfNumbersThatMayNotBe(t *testing.T) {
	// Of some the lowest bits alone would do.
	for _, n := range []int{
		1 << 14, 1<<14 + 1, 1<<15 - 1, 1 << 15, 1 << 16, 1<<16 + 1, 1<<31 - 1, 1 << 31, 1 << 32, 1<<32 + 63, 1 << 62, math.MaxInt - 1, math.MaxInt,
		-1, -2, -63, -64, -65, -1 << 14, -1<<14 - 1, -1 << 31, -1 << 32, -1<<32 + 63, math.MinInt + 63, math.MinInt + 1, math.MinInt,
	} {
		hasNoSize(t, n)
	}
}

// Pd1: Pad.

func TestPadByteForByte(t *testing.T) {
	for _, c := range []struct{ s, want string }{
		{"", "\x80" + noughts(63)},
		{"a", "a\x80" + noughts(62)},
		{"\x00", "\x00\x80" + noughts(62)},
		{"\x80", "\x80\x80" + noughts(62)},
		{"\x80\x00", "\x80\x00\x80" + noughts(61)},
		{"é", "\xc3\xa9\x80" + noughts(61)},
		// These bytes would be one rune with the byte behind them.
		{"\xc2", "\xc2\x80" + noughts(62)},
		{"\xf0\x90\x80", "\xf0\x90\x80\x80" + noughts(60)},
		{strings.Repeat("a", 62), strings.Repeat("a", 62) + "\x80\x00"},
		{strings.Repeat("a", 63), strings.Repeat("a", 63) + "\x80"},
		{strings.Repeat("a", 64), strings.Repeat("a", 64) + "\x80" + noughts(63)},
		{strings.Repeat("a", 65), strings.Repeat("a", 65) + "\x80" + noughts(62)},
		{strings.Repeat("a", 127), strings.Repeat("a", 127) + "\x80"},
		{strings.Repeat("a", 128), strings.Repeat("a", 128) + "\x80" + noughts(127)},
		{strings.Repeat("a", 8191), strings.Repeat("a", 8191) + "\x80"},
		{strings.Repeat("a", 8192), strings.Repeat("a", 8192) + "\x80" + noughts(8191)},
		{strings.Repeat("a", 16382), strings.Repeat("a", 16382) + "\x80\x00"},
		{strings.Repeat("a", 16383), strings.Repeat("a", 16383) + "\x80"},
		{noughts(63), noughts(63) + "\x80"},
		{noughts(64), noughts(64) + "\x80" + noughts(63)},
		{"\x80" + noughts(63), "\x80" + noughts(63) + "\x80" + noughts(63)},
	} {
		pads(t, c.s, c.want)
	}
}

func TestPadAtTheEdges(t *testing.T) {
	for _, n := range edges() {
		for _, s := range texts(n) {
			pads(t, s, s+"\x80"+noughts(otherSize(n)-n-1))
		}
	}
}

func TestPadOfEachLength(t *testing.T) {
	s := drawn(rand.New(rand.NewSource(141)), 1<<14)
	for n := range 1 << 14 {
		pads(t, s[:n], otherPad(s[:n]))
	}
}

func TestPadOfLongTexts(t *testing.T) {
	for _, n := range []int{1 << 14, 1<<14 + 1, 1<<15 - 1, 1 << 15, 1<<16 - 1, 1 << 16, 1<<16 + 1, 1 << 22} {
		for _, s := range []string{noughts(n), strings.Repeat("a", n), strings.Repeat("\x80", n), strings.Repeat("a", n-1) + "\x80", "\x80" + noughts(n-1)} {
			padsNot(t, s)
		}
	}
}

func TestPadOfOneThatIsPadded(t *testing.T) {
	// It grows by one size each time, till there is none any more; and goes back the same way.
	s, steps := "a", []string{}
	for _, size := range all {
		steps = append(steps, s)
		next, e := Pad(s)
		if len(next) != size || e != api.OK {
			t.Fatalf("%d bytes: %d %d", len(s), len(next), e)
		}
		s = next
	}
	padsNot(t, s)
	for _, want := range slices.Backward(steps) {
		was, e := Unpad(s)
		if was != want || e != api.OK {
			t.Fatalf("%d bytes: %d %d", len(s), len(was), e)
		}
		s = was
	}
}

// Pd1: Unpad.

func TestUnpadOfOtherLengths(t *testing.T) {
	unpadsNot(t, "")
	for _, n := range edges() {
		for _, s := range texts(n) {
			p := otherPad(s)
			unpadsNot(t, p[:len(p)-1])
			unpadsNot(t, p[:len(p)/2+1])
			for _, more := range []string{"\x00", "\x80", "\x01", "a", "\x80\x00"} {
				unpadsNot(t, p+more)
			}
			unpadsNot(t, "a"+p)
			// A size too great.
			unpadsNot(t, p+noughts(len(p)))
			unpadsNot(t, p+noughts(3*len(p)))
			unpadsNot(t, p+noughts(1<<14))
		}
	}
}

func TestUnpadOfLengthsThatAreNoSizes(t *testing.T) {
	for n := range 1<<11 + 70 {
		if slices.Contains(all, n) {
			continue
		}
		for _, s := range texts(n) {
			unpadsNot(t, s)
		}
	}
	// Each of these is twice another one, but is none of the sizes.
	for _, n := range []int{1, 2, 4, 8, 16, 32, 1 << 15, 1 << 16, 1 << 17, 1 << 22} {
		for _, s := range []string{noughts(n), strings.Repeat("a", n-1) + "\x80", strings.Repeat("a", n/2) + "\x80" + noughts(n-n/2-1), "\x80" + noughts(n-1)} {
			unpadsNot(t, s)
		}
	}
}

func TestUnpadWithoutTheMark(t *testing.T) {
	for _, size := range all {
		unpadsNot(t, noughts(size))
		unpadsNot(t, strings.Repeat("a", size))
		unpadsNot(t, strings.Repeat("a", size-1)+"\x00")
		unpadsNot(t, strings.Repeat("a", size/2)+noughts(size/2))
		unpadsNot(t, "\x80"+strings.Repeat("a", size-1))
		unpadsNot(t, strings.Repeat("\x80", size-1)+"\x01")
	}
}

func TestUnpadOfSizesThatAreTooGreat(t *testing.T) {
	for i, size := range all {
		if i == 0 {
			// The least size has no less: it is right for each text that is short enough.
			pads(t, "", "\x80"+noughts(size-1))
			continue
		}
		for _, n := range []int{0, 1, size/4 - 1, size/2 - 2, size/2 - 1} {
			unpadsNot(t, strings.Repeat("a", n)+"\x80"+noughts(size-n-1))
		}
		for _, n := range []int{size / 2, size/2 + 1, size - 2, size - 1} {
			pads(t, strings.Repeat("a", n), strings.Repeat("a", n)+"\x80"+noughts(size-n-1))
		}
	}
}

func TestUnpadWithAnotherByteInPlaceOfTheMark(t *testing.T) {
	for _, n := range edges() {
		for _, s := range texts(n)[:5] {
			p := []byte(otherPad(s))
			for _, c := range []byte{0x00, 0x01, 0x08, 0x40, 0x7f, 0x81, 0x90, 0xc0, 0xff} {
				p[n] = c
				if c == 0 {
					// The text may have the byte 80 itself, and then be one that was padded.
					unpadsAsOther(t, string(p))
				} else {
					unpadsNot(t, string(p))
				}
			}
		}
		p := []byte(otherPad(strings.Repeat("a", n)))
		p[n] = 0
		unpadsNot(t, string(p))
	}
}

func TestUnpadWithAnotherByteInPlaceOfANought(t *testing.T) {
	for _, n := range edges() {
		p := []byte(otherPad(strings.Repeat("a", n)))
		for _, place := range []int{n + 1, n + 2, (n + len(p)) / 2, len(p) - 2, len(p) - 1} {
			if place <= n || place >= len(p) {
				continue
			}
			for _, c := range []byte{0x01, 0x20, 0x7f, 0x81, 0xff} {
				p[place] = c
				unpadsNot(t, string(p))
			}
			// But with the byte 80 there, another text was padded: the first one, its mark, and noughts.
			p[place] = 0x80
			pads(t, strings.Repeat("a", n)+"\x80"+noughts(place-n-1), string(p))
			p[place] = 0
		}
	}
}

func TestUnpadWithEachByteTurned(t *testing.T) {
	yes, no := 0, 0
	for _, s := range []string{"", "a", noughts(7), strings.Repeat("\x80", 31), strings.Repeat("a", 62), strings.Repeat("a", 63), strings.Repeat("a", 64), noughts(127)} {
		p := []byte(otherPad(s))
		for i := range p {
			was := p[i]
			for c := range 256 {
				p[i] = byte(c)
				if unpadsAsOther(t, string(p)) {
					yes++
				} else {
					no++
				}
			}
			p[i] = was
		}
	}
	if yes < 1000 || no < 1000 {
		t.Errorf("what was turned tells too little: %d %d", yes, no)
	}
}

// Pd2.

func TestDrawnTexts(t *testing.T) {
	draw := rand.New(rand.NewSource(142))
	for range 4000 {
		s := drawn(draw, draw.Intn(1<<draw.Intn(15)))
		// Ends that are as padding is.
		s = s[:len(s)*draw.Intn(5)/4] + strings.Repeat("\x80", draw.Intn(3)) + noughts(draw.Intn(4))
		if len(s) >= 1<<14 {
			padsNot(t, s)
			continue
		}
		p, e := Pad(s)
		if e != api.OK || len(p) != otherSize(len(s)) {
			t.Fatalf("Pad of %d bytes: %d %d", len(s), len(p), e)
		}
		if was, e := Unpad(p); was != s || e != api.OK {
			t.Fatalf("Unpad of %d bytes: %d bytes %d, not %d", len(p), len(was), e, len(s))
		}
		pads(t, s, otherPad(s))
	}
}

func TestDrawnBytesAreUnpaddedOrNot(t *testing.T) {
	draw := rand.New(rand.NewSource(143))
	yes, no := 0, 0
	few := []byte{0x00, 0x00, 0x00, 0x80, 0x80, 0x01}
	for range 20000 {
		// Few kinds of bytes, and mostly noughts at the end: so many are padded.
		b := make([]byte, all[draw.Intn(4)]+max(0, draw.Intn(8)-6))
		for i := range draw.Intn(len(b) + 1) {
			b[i] = few[draw.Intn(len(few))]
		}
		if unpadsAsOther(t, string(b)) {
			yes++
		} else {
			no++
		}
	}
	if yes < 2000 || no < 2000 {
		t.Errorf("what was drawn tells too little: %d %d", yes, no)
	}
}

func TestTextsOfOneSizeHaveOneLength(t *testing.T) {
	draw := rand.New(rand.NewSource(144))
	least := 0
	for _, size := range all {
		lengths := []int{least, size - 1}
		for range 20 {
			lengths = append(lengths, least+draw.Intn(size-least))
		}
		for _, n := range lengths {
			for _, s := range texts(n) {
				if p, e := Pad(s); len(p) != size || e != api.OK {
					t.Errorf("Pad of %d bytes %.80x: %d bytes %d, not %d", n, s, len(p), e, size)
				}
			}
		}
		least = size
	}
}

func TestDifferentTextsArePaddedDifferently(t *testing.T) {
	padded := map[string]string{}
	for n := range 300 {
		for _, s := range texts(n) {
			p, e := Pad(s)
			if was, ok := padded[p]; e != api.OK || ok && was != s {
				t.Fatalf("Pad of %x: as %x, %d", s, was, e)
			}
			padded[p] = s
		}
	}
}

// R3 and R4.

func TestTextsStandAsTheyWere(t *testing.T) {
	// A text that is a piece of a longer one: what stands behind its end is not read.
	long := strings.Repeat("a", 40) + "\x80" + noughts(200) + "\x80" + noughts(200)
	want := strings.Clone(long)
	for n := range len(long) {
		pads(t, long[:n], otherPad(strings.Clone(long[:n])))
		unpadsAsOther(t, long[:n])
		if long != want {
			t.Fatal("changed")
		}
	}
	// What was made of bytes that are written over then is as it was.
	b := bytes.Repeat([]byte("x"), 64)
	p, _ := Pad(string(b))
	clear(b)
	if p != strings.Repeat("x", 64)+"\x80"+noughts(63) {
		t.Errorf("Pad: %x", p)
	}
}

func TestAnswersHangOnTheArgumentsAlone(t *testing.T) {
	draw := rand.New(rand.NewSource(145))
	for range 3000 {
		switch draw.Intn(6) {
		case 0:
			padsNot(t, noughts(1<<14+draw.Intn(9)))
		case 1:
			unpadsNot(t, noughts(draw.Intn(300)))
		case 2:
			hasNoSize(t, -1-draw.Intn(300))
		case 3:
			clear(Sizes())
		case 4:
			s := drawn(draw, draw.Intn(1<<10))
			pads(t, s, otherPad(s))
		case 5:
			n := draw.Intn(1 << 14)
			hasSize(t, n, otherSize(n))
		}
		if draw.Intn(50) == 0 && !slices.Equal(Sizes(), all) {
			t.Fatalf("Sizes: %v", Sizes())
		}
	}
}

func TestManyAtOnce(t *testing.T) {
	var wait sync.WaitGroup
	for seed := range 8 {
		wait.Go(func() {
			draw := rand.New(rand.NewSource(int64(seed)))
			for range 200 {
				s := drawn(draw, draw.Intn(1<<11))
				pads(t, s, otherPad(s))
				if l := Sizes(); !slices.Equal(l, all) {
					t.Errorf("Sizes: %v", l)
				} else {
					clear(l)
				}
			}
		})
	}
	wait.Wait()
}
