package name

import (
	"math"
	"math/rand"
	"slices"
	"strconv"
	"strings"
	"testing"
	"unicode/utf8"

	"samphire/api"
)

// noRunes are bytes that are none of a rune's, each with how many runes they count as.
var noRunes = []struct {
	text string
	n    int
}{
	{"\x80", 1},             // a later byte alone
	{"\xbf\xbf", 2},         // two of them
	{"\xc3", 1},             // a rune of two bytes, cut
	{"\xe2\x82", 2},         // one of three
	{"\xe2", 1},             // the same
	{"\xf0\x9f\x98", 3},     // one of four
	{"\xef\xbf", 2},         // U+FFFD, cut
	{"\xc0\xaf", 2},         // '/' in two bytes
	{"\xe0\x80\xaf", 3},     // in three
	{"\xf0\x80\x80\xaf", 4}, // in four
	{"\xc1\xa1", 2},         // 'a' in two
	{"\xc0\x80", 2},         // U+0000 in two
	{"\xed\xa0\x80", 3},     // the first half of a surrogate pair
	{"\xed\xbf\xbf", 3},     // the second half
	{"\xed\xa0\xbd\xed\xb8\x80", 6},
	{"\xf4\x90\x80\x80", 4},     // U+110000
	{"\xf5\x80\x80\x80", 4},     // above it
	{"\xf8\x88\x80\x80\x80", 5}, // of five bytes
	{"\xfe", 1},
	{"\xff", 1},
	{"\xff\xff\xff", 3},
}

// letters are runes of one to four bytes, U+FFFD and the least and the greatest of each length among them.
var letters = []string{"a", "Z", "~", "é", "\u00a0", "\u07ff", "\u0800", "€", "\ud7ff", "\ue000", "\ufffd", "\uffff", "\U00010000", "😀", "\U0010ffff"}

// runesOf are the runes of a text, each as its bytes, told by another way than ranging.
func runesOf(s string) []string {
	var l []string
	for s != "" {
		_, n := utf8.DecodeRuneInString(s)
		l = append(l, s[:n])
		s = s[n:]
	}
	return l
}

// drawnText is a text of up to most pieces: letters, and bytes that are none of a rune's.
func drawnText(draw *rand.Rand, most int) string {
	s := ""
	for range draw.Intn(most + 1) {
		if draw.Intn(3) == 0 {
			s += noRunes[draw.Intn(len(noRunes))].text
		} else {
			s += letters[draw.Intn(len(letters))]
		}
	}
	return s
}

// isName and isNone tell the test what Check answers otherwise.
func isName(t *testing.T, s string) {
	t.Helper()
	if e := Check(s); e != api.OK {
		t.Errorf("%q is a name: the error %d", s, e)
	}
}

func isNone(t *testing.T, s string) {
	t.Helper()
	if e := Check(s); e != api.ErrName {
		t.Errorf("%q is no name: the error %d", s, e)
	}
}

// Nm1: Check.

func TestErrNameIsEighty(t *testing.T) {
	if e := Check(""); e != 80 {
		t.Error(e)
	}
}

func TestCheckOfManyRunes(t *testing.T) {
	isNone(t, "")
	for _, x := range letters {
		for n := 1; n <= 32; n++ {
			isName(t, strings.Repeat(x, n))
		}
		for _, n := range []int{33, 34, 64, 128, 1000, 65537} {
			isNone(t, strings.Repeat(x, n))
		}
		isName(t, strings.Repeat("x", 31)+x)
		isName(t, x+strings.Repeat("x", 31))
		isNone(t, strings.Repeat("x", 32)+x)
		isNone(t, x+strings.Repeat("x", 32))
	}
	// As many bytes as a name may have, and as many runes: only the runes count.
	isName(t, strings.Repeat("\U0010ffff", 32))
	isName(t, strings.Repeat("é", 16)+strings.Repeat("e", 16))
	isNone(t, strings.Repeat("é", 16)+strings.Repeat("e", 17))
}

func TestCheckOfEachSign(t *testing.T) {
	for r := range rune(utf8.MaxRune + 1) {
		if 0xd800 <= r && r <= 0xdfff {
			continue
		}
		may := r != '/' && r >= 0x20 && (r < 0x7f || r > 0x9f)
		for _, s := range []string{"a" + string(r) + "a", strings.Repeat("é", 30) + string(r) + "a"} {
			if (Check(s) == api.OK) != may {
				t.Fatalf("%q: the error %d", s, Check(s))
			}
		}
		// Alone, at the beginning and at the end a blank may not be, either.
		may = may && r != ' '
		for _, s := range []string{string(r), string(r) + "a", "a" + string(r)} {
			if (Check(s) == api.OK) != (may && s != ".") {
				t.Fatalf("%q: the error %d", s, Check(s))
			}
		}
	}
}

func TestCheckOfSignsAtTheEdges(t *testing.T) {
	for _, x := range []string{"\x00", "\t", "\n", "\r", "\x1f", "/", "\x7f", "\u0080", "\u0085", "\u009f"} {
		for _, s := range []string{x, x + "a", "a" + x, "a" + x + "a", x + x, strings.Repeat("a", 31) + x} {
			isNone(t, s)
		}
	}
	for _, x := range []string{"!", ".", "0", "-", "~", "}", "\\", "\u00a0", "\u00a1", "\u2028", "\u3000", "\ufeff"} {
		for _, s := range []string{x + "a", "a" + x, "a" + x + "a", x + x + x, strings.Repeat("a", 31) + x} {
			isName(t, s)
		}
	}
}

func TestCheckOfDots(t *testing.T) {
	isNone(t, ".")
	isNone(t, "..")
	for _, s := range []string{"...", "....", ".a", "a.", "..a", "a..", "a..b", ". .", ".. ..", "\u2025", "\u2024", strings.Repeat(".", 32)} {
		isName(t, s)
	}
	for _, s := range []string{" .", ". ", "../", "./..", "/.", strings.Repeat(".", 33)} {
		isNone(t, s)
	}
}

func TestCheckOfBlanks(t *testing.T) {
	for _, s := range []string{" ", "  ", "   ", " a", "a ", " a ", "  a", "a  ", " é", "é ", " a b", "a b ", strings.Repeat("a", 31) + " ", " " + strings.Repeat("a", 31), strings.Repeat(" ", 32)} {
		isNone(t, s)
	}
	for _, s := range []string{"a b", "a  b", "a b c", "é é", "a" + strings.Repeat(" ", 30) + "b"} {
		isName(t, s)
	}
	isNone(t, "a"+strings.Repeat(" ", 31)+"b")
}

func TestCheckOfBytesThatAreNoRunes(t *testing.T) {
	for _, c := range noRunes {
		for _, s := range []string{c.text, c.text + "a", "a" + c.text, "a" + c.text + "a", "é" + c.text + "é", "\ufffd" + c.text, c.text + "\ufffd", strings.Repeat("a", 32-c.n) + c.text} {
			isNone(t, s)
		}
	}
	for b := 0x80; b < 0x100; b++ {
		isNone(t, "a"+string([]byte{byte(b)})+"a")
	}
}

func TestCheckOfTheRuneThatStandsForNone(t *testing.T) {
	isName(t, "\ufffd")
	isName(t, "\xef\xbf\xbd")
	isName(t, "a\ufffda")
	isName(t, strings.Repeat("\ufffd", 32))
	isNone(t, strings.Repeat("\ufffd", 33))
	isNone(t, "\ufffd/")
	isNone(t, "\xef\xbf\xbd\xbd")
	isNone(t, "\xef\xef\xbf\xbd")
}

// Nm1: Count.

func TestCountOfKnownTexts(t *testing.T) {
	for s, want := range map[string]int{
		"": 0, "a": 1, "é": 1, "e\u0301": 2, "€": 1, "😀": 1, "abc": 3, "aé€😀": 4, "\x00": 1, "\n\n": 2, " a ": 3, "..": 2, "a/b": 3, "\x7f\u0080": 2,
		"\ufffd": 1, "\ufffd\xff": 2, "a\xff€\xe2\x82": 5, "\xe2\x82a": 3, "\xe2\x82\xac\xac": 2,
		strings.Repeat("x", 33): 33, strings.Repeat("€", 33): 33, strings.Repeat("😀", 70000): 70000, strings.Repeat("\xff", 70000): 70000,
	} {
		if n := Count(s); n != want {
			t.Errorf("%.40q: %d, not %d", s, n, want)
		}
	}
	for _, c := range noRunes {
		if n := Count(c.text); n != c.n {
			t.Errorf("%q: %d, not %d", c.text, n, c.n)
		}
		if n := Count("é" + c.text + "€"); n != c.n+2 {
			t.Errorf("é, %q, €: %d, not %d", c.text, n, c.n+2)
		}
	}
	for _, x := range letters {
		for n := range 40 {
			if got := Count(strings.Repeat(x, n)); got != n {
				t.Errorf("%d times %q: %d", n, x, got)
			}
		}
	}
}

func TestCountOfDrawnTexts(t *testing.T) {
	draw := rand.New(rand.NewSource(81))
	for range 5000 {
		s := drawnText(draw, 40)
		if n := Count(s); n != len(runesOf(s)) {
			t.Errorf("%q: %d, not %d", s, n, len(runesOf(s)))
		}
	}
}

// Nm1: Cut.

func TestCutOfKnownTexts(t *testing.T) {
	for _, c := range []struct {
		s    string
		n    int
		want string
	}{
		{"", -1, ""}, {"", 0, ""}, {"", 1, ""}, {"", 5, ""}, {"", math.MinInt, ""}, {"", math.MaxInt, ""},
		{"a", -1, ""}, {"a", 0, ""}, {"a", 1, "a"}, {"a", 2, "a"}, {"a", math.MinInt, ""}, {"a", math.MaxInt, "a"},
		{"é", 0, ""}, {"é", 1, "é"}, {"é", 2, "é"},
		{"€€x", -1, ""}, {"€€x", 0, ""}, {"€€x", 1, "€"}, {"€€x", 2, "€€"}, {"€€x", 3, "€€x"}, {"€€x", 4, "€€x"},
		{"a😀b", 1, "a"}, {"a😀b", 2, "a😀"}, {"a😀b", 3, "a😀b"},
		{"\ufffdab", 1, "\ufffd"}, {"\ufffdab", 2, "\ufffda"},
		{"\xffab", 0, ""}, {"\xffab", 1, "\xff"}, {"\xffab", 2, "\xffa"},
		{"\xe2\x82", 1, "\xe2"}, {"\xe2\x82", 2, "\xe2\x82"}, {"\xe2\x82", 3, "\xe2\x82"},
		{"\xe2\x82é", 1, "\xe2"}, {"\xe2\x82é", 2, "\xe2\x82"}, {"\xe2\x82é", 3, "\xe2\x82é"},
		{"\xed\xa0\x80", 1, "\xed"}, {"\xed\xa0\x80", 2, "\xed\xa0"}, {"\xed\xa0\x80", 3, "\xed\xa0\x80"},
		{" a/\x00", 1, " "}, {" a/\x00", 3, " a/"}, {" a/\x00", 4, " a/\x00"},
		{strings.Repeat("€", 33), 32, strings.Repeat("€", 32)},
		{strings.Repeat("a", 70000), 69999, strings.Repeat("a", 69999)},
	} {
		if got := Cut(c.s, c.n); got != c.want {
			t.Errorf("Cut(%.40q, %d): %.40q, not %.40q", c.s, c.n, got, c.want)
		}
	}
}

// cutsAsItMust holds Cut of a text to all numbers beside its runes told apart.
func cutsAsItMust(t *testing.T, s string) {
	t.Helper()
	l := runesOf(s)
	for n := -2; n < len(l)+3; n++ {
		want := strings.Join(l[:min(max(n, 0), len(l))], "")
		if got := Cut(s, n); got != want {
			t.Errorf("Cut(%q, %d): %q, not %q", s, n, got, want)
		}
	}
}

func TestCutOfTextsToAllNumbers(t *testing.T) {
	for _, x := range letters {
		for n := range 40 {
			cutsAsItMust(t, strings.Repeat(x, n))
		}
	}
	for _, c := range noRunes {
		for _, s := range []string{c.text, c.text + "a", "é" + c.text + "€", c.text + c.text} {
			cutsAsItMust(t, s)
		}
	}
	draw := rand.New(rand.NewSource(82))
	for range 500 {
		cutsAsItMust(t, drawnText(draw, 40))
	}
}

// Nm1: Fold.

func TestFoldOfAllBytes(t *testing.T) {
	var all, want [256]byte
	for i := range 256 {
		all[i], want[i] = byte(i), byte(i)
	}
	copy(want['A':], "abcdefghijklmnopqrstuvwxyz")
	if got := Fold(string(all[:])); got != string(want[:]) {
		t.Errorf("%q", got)
	}
	for i := range 256 {
		if got := Fold(string(all[i : i+1])); got != string(want[i:i+1]) {
			t.Errorf("%q: %q", all[i:i+1], got)
		}
	}
}

func TestFoldOfKnownTexts(t *testing.T) {
	for s, want := range map[string]string{
		"": "", "a": "a", "A": "a", "Z": "z", "@[`{": "@[`{", "Hello, World": "hello, world", "ABCXYZ": "abcxyz", "aBc1": "abc1",
		"É": "É", "ÀA": "Àa", "\u0130I": "\u0130i", "\u212aK": "\u212ak", "Ω": "Ω", "Ａ": "Ａ", "\ufffdB": "\ufffdb",
		"\xffA\x80": "\xffa\x80", "\xc3A": "\xc3a", "\xe2\x82B": "\xe2\x82b", "\xc1\x81": "\xc1\x81",
		strings.Repeat("Aa", 40000): strings.Repeat("aa", 40000),
	} {
		if got := Fold(s); got != want {
			t.Errorf("%.40q: %.40q, not %.40q", s, got, want)
		}
	}
	for _, c := range noRunes {
		if got := Fold("X" + c.text + "Y"); got != "x"+c.text+"y" {
			t.Errorf("%q: %q", c.text, got)
		}
	}
}

// Nm2.

// many are n times one text.
func many(s string, n int) []string {
	return slices.Repeat([]string{s}, n)
}

// otherDistinct is Distinct as the chapter says it, each number tried anew, and held against the earlier ones one by one.
func otherDistinct(l []string) []string {
	var out []string
	for _, s := range l {
		own := s
		for k := 2; slices.Contains(out, own); k++ {
			behind := "~" + strconv.Itoa(k)
			r := runesOf(s)
			own = strings.Join(r[:min(len(r), 32-len(behind))], "") + behind
		}
		out = append(out, own)
	}
	return out
}

func TestDistinctOfKnownTexts(t *testing.T) {
	long, wide := strings.Repeat("n", 32), strings.Repeat("€", 32)
	for _, c := range []struct{ l, want []string }{
		{nil, nil},
		{[]string{}, nil},
		{[]string{"a"}, []string{"a"}},
		{[]string{""}, []string{""}},
		{[]string{"a", "b", "a"}, []string{"a", "b", "a~2"}},
		{[]string{"a", "a"}, []string{"a", "a~2"}},
		{[]string{"a", "a", "a"}, []string{"a", "a~2", "a~3"}},
		{[]string{"a", "b", "a", "b"}, []string{"a", "b", "a~2", "b~2"}},
		{[]string{"a", "A", "a ", "a"}, []string{"a", "A", "a ", "a~2"}},
		{[]string{"a", "a~2", "a"}, []string{"a", "a~2", "a~3"}},
		{[]string{"a", "a~2", "a", "a"}, []string{"a", "a~2", "a~3", "a~4"}},
		{[]string{"a", "a~3", "a", "a"}, []string{"a", "a~3", "a~2", "a~4"}},
		{[]string{"a~2", "a", "a"}, []string{"a~2", "a", "a~3"}},
		{[]string{"a", "a", "a~2"}, []string{"a", "a~2", "a~2~2"}},
		{[]string{"a", "a", "a~2", "a"}, []string{"a", "a~2", "a~2~2", "a~3"}},
		{[]string{"a", "a", "a~2", "a~2"}, []string{"a", "a~2", "a~2~2", "a~2~3"}},
		{[]string{"a", "a", "a~2~2", "a~2"}, []string{"a", "a~2", "a~2~2", "a~2~3"}},
		{[]string{"a", "a", "a", "a~3"}, []string{"a", "a~2", "a~3", "a~3~2"}},
		{[]string{"a", "a~1", "a~02", "a"}, []string{"a", "a~1", "a~02", "a~2"}},
		{[]string{"~2", "", ""}, []string{"~2", "", "~3"}},
		{[]string{long, long}, []string{long, long[:30] + "~2"}},
		{[]string{long, long, long}, []string{long, long[:30] + "~2", long[:30] + "~3"}},
		{[]string{wide, wide, wide}, []string{wide, wide[:90] + "~2", wide[:90] + "~3"}},
		{[]string{long[1:], long[1:]}, []string{long[1:], long[:30] + "~2"}},
		{[]string{long[2:], long[2:]}, []string{long[2:], long[:30] + "~2"}},
		{[]string{long[3:], long[3:]}, []string{long[3:], long[:29] + "~2"}},
		// Texts whose first 30 runes are alike come to the same numbers.
		{[]string{long, long, long[1:], long[1:], long[2:], long[2:]}, []string{long, long[:30] + "~2", long[1:], long[:30] + "~3", long[2:], long[:30] + "~4"}},
		// One of 32 runes that looks, cut and with its number, as it was.
		{[]string{long[:30] + "~2", long[:30] + "~2"}, []string{long[:30] + "~2", long[:30] + "~3"}},
		{[]string{long, long, long[:30] + "~2"}, []string{long, long[:30] + "~2", long[:30] + "~3"}},
		{[]string{long[:30] + "~3", long, long, long}, []string{long[:30] + "~3", long, long[:30] + "~2", long[:30] + "~4"}},
	} {
		if got := Distinct(c.l); !slices.Equal(got, c.want) {
			t.Errorf("%q: %q, not %q", c.l, got, c.want)
		}
	}
}

func TestDistinctOfTextsThatAreNoNames(t *testing.T) {
	long := strings.Repeat("n", 40)
	for _, c := range []struct{ l, want []string }{
		{[]string{"", "", ""}, []string{"", "~2", "~3"}},
		{[]string{".", ".", "..", ".."}, []string{".", ".~2", "..", "..~2"}},
		{[]string{" ", " ", "/", "/", "\x00", "\x00"}, []string{" ", " ~2", "/", "/~2", "\x00", "\x00~2"}},
		{[]string{"a/b", "a/b"}, []string{"a/b", "a/b~2"}},
		{[]string{"\xff", "\xff", "\ufffd", "\ufffd"}, []string{"\xff", "\xff~2", "\ufffd", "\ufffd~2"}},
		{[]string{"\xe2\x82", "\xe2\x82"}, []string{"\xe2\x82", "\xe2\x82~2"}},
		{[]string{long, long, long}, []string{long, long[:30] + "~2", long[:30] + "~3"}},
		{[]string{long[:33], long[:33]}, []string{long[:33], long[:30] + "~2"}},
		{many(strings.Repeat("\xff", 33), 2), []string{strings.Repeat("\xff", 33), strings.Repeat("\xff", 30) + "~2"}},
		{many(strings.Repeat("\xe2\x82", 20), 2), []string{strings.Repeat("\xe2\x82", 20), strings.Repeat("\xe2\x82", 15) + "~2"}},
		{many(strings.Repeat("€", 29)+"\xe2\x82\xff", 2), []string{strings.Repeat("€", 29) + "\xe2\x82\xff", strings.Repeat("€", 29) + "\xe2~2"}},
		{many(strings.Repeat("x", 100000), 2), []string{strings.Repeat("x", 100000), strings.Repeat("x", 30) + "~2"}},
	} {
		if got := Distinct(c.l); !slices.Equal(got, c.want) {
			t.Errorf("%.80q: %.80q, not %.80q", c.l, got, c.want)
		}
	}
}

func TestDistinctOfManyAlike(t *testing.T) {
	for _, s := range []string{"a", "é", "", strings.Repeat("n", 28), strings.Repeat("n", 29), strings.Repeat("n", 30), strings.Repeat("n", 31), strings.Repeat("n", 32), strings.Repeat("€", 32), strings.Repeat("\xff", 40)} {
		r := runesOf(s)
		for i, got := range Distinct(many(s, 1100)) {
			want := s
			if i > 0 {
				k := strconv.Itoa(i + 1)
				want = strings.Join(r[:min(len(r), 31-len(k))], "") + "~" + k
			}
			if got != want {
				t.Errorf("%q for the %d. time: %q, not %q", s, i+1, got, want)
			}
		}
	}
	got := Distinct(many("a", 101))
	for i, want := range map[int]string{0: "a", 1: "a~2", 8: "a~9", 9: "a~10", 98: "a~99", 99: "a~100", 100: "a~101"} {
		if got[i] != want {
			t.Errorf("a for the %d. time: %q", i+1, got[i])
		}
	}
	long := strings.Repeat("n", 32)
	got = Distinct(many(long, 101))
	for i, want := range map[int]string{8: long[:30] + "~9", 9: long[:29] + "~10", 98: long[:29] + "~99", 99: long[:28] + "~100"} {
		if got[i] != want {
			t.Errorf("a name of 32 runes for the %d. time: %q", i+1, got[i])
		}
	}
}

func TestDistinctOfVeryManyAlikeEnds(t *testing.T) {
	got := Distinct(many("a", 200000))
	if len(got) != 200000 || got[199999] != "a~200000" {
		t.Errorf("%d texts, the last one %q", len(got), got[len(got)-1])
	}
}

// drawnTexts are ones that are often alike, and often what another one becomes.
func drawnTexts(draw *rand.Rand, most int, pieces []string) []string {
	l := make([]string, draw.Intn(most+1))
	for i := range l {
		l[i] = pieces[draw.Intn(len(pieces))]
	}
	return l
}

// namesAlike are names that are what others of them become, or have their first runes alike.
func namesAlike() []string {
	long, wide := strings.Repeat("n", 32), strings.Repeat("€", 32)
	return []string{
		"a", "a~2", "a~2~2", "a~3", "a~10", "b", "A", "é", "é~2",
		long, long[1:], long[:30] + "~2", long[:30] + "~3", long[:29] + "~10", long[:31] + "m",
		wide, wide[:90] + "~2", wide[:90] + "ab", wide[:87] + "~11", "a" + strings.Repeat(" ", 28) + "bcd",
	}
}

func TestDistinctOfDrawnTexts(t *testing.T) {
	draw := rand.New(rand.NewSource(83))
	pieces := append(namesAlike(), "", "~2", "~2~2", ".", "..", " ", "\xff", "\xff~2", strings.Repeat("n", 33), strings.Repeat("\xff", 33), strings.Repeat("\xff", 30)+"~2")
	for range 3000 {
		some := pieces[draw.Intn(len(pieces)):]
		l := drawnTexts(draw, 60, some)
		if got, want := Distinct(l), otherDistinct(l); !slices.Equal(got, want) {
			t.Fatalf("%q: %q, not %q", l, got, want)
		}
	}
}

// Nm3.

// areApart tells the test which of texts are the same.
func areApart(t *testing.T, l []string) {
	t.Helper()
	seen := map[string]int{}
	for i, s := range l {
		if at, ok := seen[s]; ok {
			t.Errorf("%q is the %d. and the %d. one", s, at+1, i+1)
		}
		seen[s] = i
	}
}

func TestDistinctNamesAreDistinctNames(t *testing.T) {
	draw := rand.New(rand.NewSource(84))
	for range 3000 {
		l := drawnTexts(draw, 60, namesAlike())
		got := Distinct(l)
		if len(got) != len(l) {
			t.Fatalf("%d names for %d", len(got), len(l))
		}
		areApart(t, got)
		for i, s := range got {
			isName(t, s)
			// A name that no earlier one has, of itself or by a number, is as it was.
			if !slices.Contains(got[:i], l[i]) && s != l[i] {
				t.Errorf("%q for %q", s, l[i])
			}
		}
	}
}

func TestTheFirstOfEachIsAsItWas(t *testing.T) {
	draw := rand.New(rand.NewSource(85))
	names := []string{"a", "b", "é", "a b", "...", strings.Repeat("n", 32), strings.Repeat("n", 31), strings.Repeat("€", 32), strings.Repeat("€", 31) + "x"}
	for _, s := range names {
		isName(t, s)
	}
	for range 1000 {
		l := drawnTexts(draw, 300, names)
		got := Distinct(l)
		areApart(t, got)
		for i, s := range l {
			if first := slices.Index(l, s) == i; first != (got[i] == s) {
				t.Errorf("the %d. one, %q: %q", i+1, s, got[i])
			}
		}
	}
}

func TestDistinctTextsThatAreNoNamesAreDistinct(t *testing.T) {
	draw := rand.New(rand.NewSource(86))
	for range 1000 {
		l := make([]string, draw.Intn(100))
		for i := range l {
			l[i] = drawnText(draw, 2)
		}
		got := Distinct(l)
		if len(got) != len(l) {
			t.Fatalf("%d texts for %d", len(got), len(l))
		}
		areApart(t, got)
	}
}

func TestNamesThatAreCutStayNames(t *testing.T) {
	// Where a name is cut there may be a blank, or dots alone may be left: what is put behind lets it be a name.
	for _, s := range []string{"a" + strings.Repeat(" ", 30) + "b", "...", ".a", strings.Repeat(".", 32), "~", "~~2", strings.Repeat("~", 32), strings.Repeat("\ufffd", 32), strings.Repeat("\U0010ffff", 32)} {
		isName(t, s)
		got := Distinct(many(s, 1100))
		areApart(t, got)
		for _, x := range got {
			isName(t, x)
		}
	}
}

// R3 and R4.

func TestWhatIsHandedInStandsAsItWas(t *testing.T) {
	room := append([]string{"a", "b", "a", "a~2", "a", "behind", "a", "a~3"}, many("a", 20)...)
	was := slices.Clone(room)
	got := Distinct(room[:5])
	if !slices.Equal(room, was) {
		t.Errorf("%q", room)
	}
	if !slices.Equal(got, []string{"a", "b", "a~2", "a~2~2", "a~3"}) {
		t.Errorf("%q", got)
	}
	// The answer is new memory, up to its end and behind it.
	got = got[:cap(got)]
	for i := range got {
		got[i] = "other"
	}
	if !slices.Equal(room, was) {
		t.Errorf("%q", room)
	}
	one := []string{"a"}
	Distinct(one)[0] = "b"
	if one[0] != "a" {
		t.Error("the list and the answer share memory")
	}
}

func TestAnswersHangOnArgumentsAlone(t *testing.T) {
	draw := rand.New(rand.NewSource(87))
	l := drawnTexts(draw, 60, namesAlike())
	first := Distinct(l)
	for i := range 50 {
		Distinct(drawnTexts(draw, 60, namesAlike()))
		Check(drawnText(draw, i))
		Fold(drawnText(draw, i))
		if got := Distinct(l); !slices.Equal(got, first) {
			t.Fatalf("the %d. time: %q, not %q", i+2, got, first)
		}
		if Check("a") != api.OK || Check("/") != api.ErrName || Count("aé") != 2 || Cut("aé", 1) != "a" || Fold("A") != "a" {
			t.Fatalf("the %d. time other answers", i+2)
		}
	}
	// Pieces of one longer text: nothing is read behind their ends.
	all := "a€b /"
	if Count(all[:2]) != 2 || Check(all[:2]) != api.ErrName || Cut(all[:2], 2) != "a\xe2" || Check(all[:5]) != api.OK || Fold(all[:4]) != "a€" {
		t.Error("what lies behind a text's end is read")
	}
}
