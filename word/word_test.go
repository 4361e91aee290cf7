package word

import (
	"math"
	"math/rand"
	"slices"
	"strings"
	"testing"

	"samphire/api"
)

// someNumbers are words, the edges of words, and numbers that are none.
var someNumbers = []int{
	0, 1, 2, 0x7fffffff, 0x80000000, 0x80000001, 0x12345678, 0xdeadbeef, 0xfffffffe, 0xffffffff,
	1 << 32, 1<<32 + 1, 1<<32 | 0x12345678, 1<<40 - 1, 0x0123456789abcdef,
	-1, -2, -1 << 31, -1<<31 - 1, -1 << 32, -1<<32 + 5, math.MaxInt, math.MinInt,
}

// lowest are the lowest 32 bits of a number.
func lowest(x int) int { return x & 0xffffffff }

// texts are the same ones in each run: the empty one, all bytes, and drawn ones of all lengths up to most.
func texts(most int) []string {
	draw := rand.New(rand.NewSource(1))
	all := make([]byte, 256)
	for i := range all {
		all[i] = byte(i)
	}
	l := []string{"", string(all), strings.Repeat("\x00", 12), strings.Repeat("\xff", 12)}
	for n := range most + 1 {
		b := make([]byte, n)
		draw.Read(b)
		l = append(l, string(b))
	}
	return l
}

// turned is the word x turned left, bit by bit: the bit i comes to i + n, modulo 32.
func turned(x, n int) int {
	y := 0
	for i := range 32 {
		to := ((i+n%32)%32 + 32) % 32
		y |= x >> i & 1 << to
	}
	return y
}

// Wo1: Rot.

func TestRotOfKnownWords(t *testing.T) {
	for _, c := range []struct{ x, n, want int }{
		{0x80000001, 4, 0x18},
		{0x12345678, 8, 0x34567812},
		{0x12345678, -8, 0x78123456},
		{0x12345678, 0, 0x12345678},
		{0x12345678, 32, 0x12345678},
		{0x12345678, -32, 0x12345678},
		{0x12345678, 40, 0x34567812},
		{0x12345678, -40, 0x78123456},
		{1, 31, 0x80000000},
		{1, -1, 0x80000000},
		{1, 33, 2},
		{1, -31, 2},
		{0, 7, 0},
		{0xffffffff, 7, 0xffffffff},
		{1, math.MaxInt, 0x80000000},
		{1, math.MinInt, 1},
		{1, math.MinInt + 1, 2},
		{1, 1 << 40, 1},
		{-1, 5, 0xffffffff},
		{-2, 0, 0xfffffffe},
		{1 << 32, 1, 0},
		{1<<32 | 1, 32, 1},
		{1<<33 | 0x80000000, 1, 1},
		{math.MinInt, 3, 0},
		{math.MaxInt, 0, 0xffffffff},
	} {
		if y := Rot(c.x, c.n); y != c.want {
			t.Errorf("Rot(%#x, %d): %#x, not %#x", c.x, c.n, y, c.want)
		}
	}
}

func TestRotBitByBit(t *testing.T) {
	for _, x := range someNumbers {
		for n := -130; n <= 130; n++ {
			if y := Rot(x, n); y != turned(x, n) {
				t.Errorf("Rot(%#x, %d): %#x, not %#x", x, n, y, turned(x, n))
			}
		}
		for _, n := range someNumbers {
			if y := Rot(x, n); y != turned(x, n) {
				t.Errorf("Rot(%#x, %d): %#x, not %#x", x, n, y, turned(x, n))
			}
		}
	}
}

// Wo1: Big, Small, PutBig, PutSmall.

func TestWordsOfBytes(t *testing.T) {
	for _, c := range []struct {
		s          string
		big, small []int
	}{
		{"", nil, nil},
		{"\x00\x00\x01\x02", []int{258}, []int{0x02010000}},
		{"\x01\x02\x03\x04", []int{0x01020304}, []int{0x04030201}},
		{"\xff\x00\x00\x00", []int{0xff000000}, []int{0xff}},
		{"\x00\x00\x00\xff", []int{0xff}, []int{0xff000000}},
		{"\xff\xff\xff\xff\x80\x00\x00\x7f", []int{0xffffffff, 0x8000007f}, []int{0xffffffff, 0x7f000080}},
		{"abcdefghijkl", []int{0x61626364, 0x65666768, 0x696a6b6c}, []int{0x64636261, 0x68676665, 0x6c6b6a69}},
	} {
		if l, e := Big(c.s); !slices.Equal(l, c.big) || e != api.OK {
			t.Errorf("Big(%q): %x %d", c.s, l, e)
		}
		if l, e := Small(c.s); !slices.Equal(l, c.small) || e != api.OK {
			t.Errorf("Small(%q): %x %d", c.s, l, e)
		}
		if s := PutBig(c.big); s != c.s {
			t.Errorf("PutBig(%x): %q", c.big, s)
		}
		if s := PutSmall(c.small); s != c.s {
			t.Errorf("PutSmall(%x): %q", c.small, s)
		}
	}
}

func TestWordsOfBytesThatFourDoesNotDivide(t *testing.T) {
	for n := range 70 {
		s := strings.Repeat("a", n)
		want, many := api.OK, n/4
		if n%4 != 0 {
			want, many = api.ErrArg, 0
		}
		if l, e := Big(s); e != want || len(l) != many {
			t.Errorf("Big of %d bytes: %x %d", n, l, e)
		}
		if l, e := Small(s); e != want || len(l) != many {
			t.Errorf("Small of %d bytes: %x %d", n, l, e)
		}
	}
}

func TestPutNumbersThatAreNoWords(t *testing.T) {
	for _, c := range []struct {
		x          int
		big, small string
	}{
		{-1, "\xff\xff\xff\xff", "\xff\xff\xff\xff"},
		{-2, "\xff\xff\xff\xfe", "\xfe\xff\xff\xff"},
		{1 << 32, "\x00\x00\x00\x00", "\x00\x00\x00\x00"},
		{1<<32 | 258, "\x00\x00\x01\x02", "\x02\x01\x00\x00"},
		{0x0123456789abcdef, "\x89\xab\xcd\xef", "\xef\xcd\xab\x89"},
		{math.MaxInt, "\xff\xff\xff\xff", "\xff\xff\xff\xff"},
		{math.MinInt, "\x00\x00\x00\x00", "\x00\x00\x00\x00"},
		{math.MinInt | 1, "\x00\x00\x00\x01", "\x01\x00\x00\x00"},
	} {
		if s := PutBig([]int{7, c.x, 7}); s != "\x00\x00\x00\x07"+c.big+"\x00\x00\x00\x07" {
			t.Errorf("PutBig of %#x: %q", c.x, s)
		}
		if s := PutSmall([]int{7, c.x, 7}); s != "\x07\x00\x00\x00"+c.small+"\x07\x00\x00\x00" {
			t.Errorf("PutSmall of %#x: %q", c.x, s)
		}
	}
}

func TestPutNoWords(t *testing.T) {
	for _, l := range [][]int{nil, {}} {
		if PutBig(l) != "" || PutSmall(l) != "" {
			t.Errorf("%q %q", PutBig(l), PutSmall(l))
		}
	}
}

// Wo2: Xor.

func TestXor(t *testing.T) {
	for _, c := range []struct{ a, b, want string }{
		{"", "", ""},
		{"a", "a", "\x00"},
		{"abc", "\x00\x00\x00", "abc"},
		{"\x0f\xf0\xff", "\xff\xff\xff", "\xf0\x0f\x00"},
		{"\x01\x02\x04\x08\x10", "\x01\x01\x01\x01\x01", "\x00\x03\x05\x09\x11"},
	} {
		if x, e := Xor(c.a, c.b); x != c.want || e != api.OK {
			t.Errorf("Xor(%q, %q): %q %d", c.a, c.b, x, e)
		}
	}
	for a := range 256 {
		for b := range 256 {
			x, e := Xor(string([]byte{byte(a)}), string([]byte{byte(b)}))
			if x != string([]byte{byte(a ^ b)}) || e != api.OK {
				t.Errorf("Xor of %d and %d: %q %d", a, b, x, e)
			}
		}
	}
}

func TestXorOfUnlikeLengths(t *testing.T) {
	for _, c := range [][2]string{{"", "a"}, {"a", ""}, {"a", "ab"}, {"ab", "a"}, {"abcd", "abcdabcd"}, {"\x00", "\x00\x00"}} {
		if x, e := Xor(c[0], c[1]); x != "" || e != api.ErrArg {
			t.Errorf("Xor(%q, %q): %q %d", c[0], c[1], x, e)
		}
	}
}

// Wo2: Same.

func TestSame(t *testing.T) {
	for _, s := range texts(40) {
		if again := string([]byte(s)); !Same(s, again) {
			t.Errorf("%q is not the same as itself", s)
		}
		for i := range s {
			for bit := range 8 {
				b := []byte(s)
				b[i] ^= 1 << bit
				if Same(s, string(b)) || Same(string(b), s) {
					t.Errorf("%q is the same with the bit %d of %d turned", s, bit, i)
				}
			}
		}
	}
}

func TestSameOfUnlikeTexts(t *testing.T) {
	for _, c := range [][2]string{
		{"a", "b"}, {"ab", "ba"}, {"ab", "AB"}, {"\x00\x01", "\x01\x00"}, {"\x00\x00\x80", "\x00\x80\x00"},
		{"", "a"}, {"", "\x00"}, {"a", "ab"}, {"a", "a\x00"}, {"ab", "b"}, {"aa", "a"},
		{"\x01\x01", "\x02\x02"}, {strings.Repeat("\x00", 256), strings.Repeat("\x01", 256)},
	} {
		if Same(c[0], c[1]) || Same(c[1], c[0]) {
			t.Errorf("%q and %q are the same", c[0], c[1])
		}
	}
}

// Wo2: Hex, Unhex.

func TestHex(t *testing.T) {
	for _, c := range [][2]string{
		{"", ""}, {"\x00", "00"}, {"\x09\x0a", "090a"}, {"\x9f\xf9", "9ff9"}, {"\xab\xcd\xef", "abcdef"},
		{"\x01\x23\x45\x67\x89", "0123456789"}, {"samphire", "73616d7068697265"},
	} {
		if h := Hex(c[0]); h != c[1] {
			t.Errorf("Hex(%q): %q", c[0], h)
		}
		if s, e := Unhex(c[1]); s != c[0] || e != api.OK {
			t.Errorf("Unhex(%q): %q %d", c[1], s, e)
		}
	}
}

func TestUnhexOfBothCases(t *testing.T) {
	for _, h := range []string{"ABCDEFabcdef", "aBcDeFAbCdEf", "abcdefABCDEF"} {
		if s, e := Unhex(h); s != "\xab\xcd\xef\xab\xcd\xef" || e != api.OK {
			t.Errorf("Unhex(%q): %q %d", h, s, e)
		}
	}
}

func TestUnhexOfOddNumbersOfDigits(t *testing.T) {
	for _, h := range []string{"0", "f", "F", "abc", "00000", strings.Repeat("a", 65)} {
		if s, e := Unhex(h); s != "" || e != api.ErrArg {
			t.Errorf("Unhex(%q): %q %d", h, s, e)
		}
	}
}

func TestUnhexOfEachByteAtEachPlace(t *testing.T) {
	for c := range 256 {
		n := strings.Index("0123456789abcdef", strings.ToLower(string([]byte{byte(c)})))
		for at := range 6 {
			b := []byte("000000")
			b[at] = byte(c)
			s, e := Unhex(string(b))
			if n < 0 && (s != "" || e != api.ErrArg) {
				t.Errorf("Unhex(%q): %q %d", b, s, e)
			}
			want := make([]byte, 3)
			if n >= 0 {
				want[at/2] = byte(n << (4 * (1 - at%2)))
			}
			if n >= 0 && (s != string(want) || e != api.OK) {
				t.Errorf("Unhex(%q): %q %d", b, s, e)
			}
		}
	}
}

func TestUnhexOfTextsThatOtherReadersTake(t *testing.T) {
	for _, h := range []string{"0x", "0x00", " 00", "00 ", " 0", "0 ", "-1", "+1", "0_", "00\n0", "\n\n", "０", "0h"} {
		if s, e := Unhex(h); s != "" || e != api.ErrArg {
			t.Errorf("Unhex(%q): %q %d", h, s, e)
		}
	}
}

// Wo3.

func TestWordsArePutAsTheBytesOfWhichTheyWere(t *testing.T) {
	for _, s := range texts(100) {
		s = s[:len(s)/4*4]
		if l, e := Big(s); PutBig(l) != s || e != api.OK {
			t.Errorf("%q: %x %d", s, l, e)
		}
		if l, e := Small(s); PutSmall(l) != s || e != api.OK {
			t.Errorf("%q: %x %d", s, l, e)
		}
	}
}

func TestBytesAreReadAsTheWordsThatWerePut(t *testing.T) {
	want := make([]int, len(someNumbers))
	for i, x := range someNumbers {
		want[i] = lowest(x)
	}
	if l, e := Big(PutBig(someNumbers)); !slices.Equal(l, want) || e != api.OK {
		t.Errorf("%x %d", l, e)
	}
	if l, e := Small(PutSmall(someNumbers)); !slices.Equal(l, want) || e != api.OK {
		t.Errorf("%x %d", l, e)
	}
}

func TestTurnedThereAndBack(t *testing.T) {
	for _, x := range someNumbers {
		for n := -70; n <= 70; n++ {
			if y := Rot(Rot(x, n), -n); y != lowest(x) {
				t.Errorf("%#x, turned by %d there and back: %#x", x, n, y)
			}
		}
		for _, n := range someNumbers {
			if y := Rot(Rot(x, n), -n); y != lowest(x) {
				t.Errorf("%#x, turned by %d there and back: %#x", x, n, y)
			}
		}
	}
}

func TestTurnedIntoAnotherTwice(t *testing.T) {
	for _, a := range texts(60) {
		for _, b := range texts(60) {
			if len(a) != len(b) {
				continue
			}
			x, e := Xor(a, b)
			y, e2 := Xor(x, b)
			if y != a || e != api.OK || e2 != api.OK {
				t.Errorf("%q, turned into %q twice: %q %d %d", a, b, y, e, e2)
			}
		}
	}
}

func TestDigitsThereAndBack(t *testing.T) {
	for _, s := range texts(60) {
		h := Hex(s)
		if back, e := Unhex(h); back != s || e != api.OK {
			t.Errorf("%q: %q %d", s, back, e)
		}
		if back, e := Unhex(strings.ToUpper(h)); back != s || e != api.OK {
			t.Errorf("%q in great letters: %q %d", s, back, e)
		}
	}
}

// R1: none panics, at long texts either. (Other tests of this file go over wrong arguments.)

func TestLongTexts(t *testing.T) {
	s := strings.Repeat("\x00\x01\xfe\xff", 1<<18)
	l, e := Big(s)
	if len(l) != 1<<18 || l[1<<18-1] != 0x0001feff || PutBig(l) != s || e != api.OK {
		t.Error("Big", len(l), e)
	}
	l, e = Small(s)
	if len(l) != 1<<18 || l[1<<18-1] != 0xfffe0100 || PutSmall(l) != s || e != api.OK {
		t.Error("Small", len(l), e)
	}
	if x, e := Xor(s, s); x != strings.Repeat("\x00", 1<<20) || e != api.OK {
		t.Error("Xor", e)
	}
	if back, e := Unhex(Hex(s)); back != s || e != api.OK {
		t.Error("Unhex", e)
	}
	if !Same(s, s[:len(s)-1]+"\xff") || Same(s, s[:len(s)-1]+"\xfe") {
		t.Error("Same")
	}
}

// R3: what is handed in is not changed, nor read beyond its end; an answer is new memory.

func TestListsHandedInAreLeftAsTheyAre(t *testing.T) {
	room := []int{1, -2, 3, 4, 5}
	was := slices.Clone(room)
	if s := PutBig(room[:2]); s != "\x00\x00\x00\x01\xff\xff\xff\xfe" {
		t.Errorf("%q", s)
	}
	if s := PutSmall(room[:2]); s != "\x01\x00\x00\x00\xfe\xff\xff\xff" {
		t.Errorf("%q", s)
	}
	if !slices.Equal(room, was) {
		t.Error(room)
	}
}

func TestAnswersAreNewMemory(t *testing.T) {
	for _, read := range []func(string) ([]int, api.Errno){Big, Small} {
		first, _ := read("\x01\x01\x01\x01\x02\x02\x02\x02")
		second, _ := read("\x01\x01\x01\x01\x02\x02\x02\x02")
		first[0], first[1] = 7, 7
		if !slices.Equal(second, []int{0x01010101, 0x02020202}) {
			t.Errorf("%x", second)
		}
	}
}

// R4: the same arguments, the same answers, whatever was called between.

func TestAnswersHangOnArgumentsAlone(t *testing.T) {
	tell := func() []string {
		var l []string
		for _, s := range texts(20) {
			big, _ := Big(s)
			small, _ := Small(s)
			x, _ := Xor(s, PutBig(big))
			bytes, _ := Unhex(s)
			l = append(l, PutSmall(big), PutBig(small), x, Hex(s), bytes)
		}
		return l
	}
	first := tell()
	Unhex("0g")
	Big("abc")
	Xor("a", "ab")
	if !slices.Equal(first, tell()) {
		t.Error("the second time it was otherwise")
	}
}
