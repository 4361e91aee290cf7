package sha

import (
	"crypto/sha256"
	"encoding/binary"
	"encoding/hex"
	"math"
	"math/rand"
	"slices"
	"strings"
	"testing"

	"samphire/api"
)

// drawn is a text of n bytes, the same one in each run.
func drawn(n int) string {
	b := make([]byte, n)
	rand.New(rand.NewSource(int64(n))).Read(b)
	return string(b)
}

// other is the sum of a text, as another program has it.
func other(s string) string {
	sum := sha256.Sum256([]byte(s))
	return string(sum[:])
}

func unhex(t *testing.T, s string) string {
	t.Helper()
	b, err := hex.DecodeString(s)
	if err != nil {
		t.Fatal(err)
	}
	return string(b)
}

// Sh1: Begin, Block.

func TestBegin(t *testing.T) {
	want := unhex(t, "6a09e667bb67ae853c6ef372a54ff53a510e527f9b05688c1f83d9ab5be0cd19")
	if s := Begin(); s != want {
		t.Errorf("%x", s)
	}
}

func TestBlockOfAKnownText(t *testing.T) {
	block := "abc\x80" + strings.Repeat("\x00", 59) + "\x18"
	want := unhex(t, "ba7816bf8f01cfea414140de5dae2223b00361a396177a9cb410ff61f20015ad")
	if s, e := Block(Begin(), block); s != want || e != api.OK {
		t.Errorf("%x %d", s, e)
	}
}

func TestBlockBehindABlock(t *testing.T) {
	// The two blocks of the 56 bytes of FIPS 180-4, and the state between them.
	first := "abcdbcdecdefdefgefghfghighijhijkijkljklmklmnlmnomnopnopq\x80" + strings.Repeat("\x00", 7)
	second := strings.Repeat("\x00", 62) + "\x01\xc0"
	between := unhex(t, "85e655d6417a17953363376a624cde5c76e09589cac5f811cc4b32c1f20e533a")
	want := unhex(t, "248d6a61d20638b8e5c026930c3e6039a33ce45964ff2167f6ecedd419db06c1")
	if s, e := Block(Begin(), first); s != between || e != api.OK {
		t.Errorf("%x %d", s, e)
	}
	if s, e := Block(between, second); s != want || e != api.OK {
		t.Errorf("%x %d", s, e)
	}
}

func TestBlockOfStatesAtTheEdgesOfWords(t *testing.T) {
	for _, c := range []struct{ state, block, want string }{
		{strings.Repeat("\x00", 32), strings.Repeat("\x00", 64), "7ca51614425c3ba8ce54dd2fc2020ae7b6e574d198136d0fae7e26ccbf0be7a6"},
		{strings.Repeat("\xff", 32), strings.Repeat("\xff", 64), "0598127aaf11706e77401fffd730c5490b84c867a98c6ca3d7f3c0f906a78b79"},
		{strings.Repeat("\x80\x00\x00\x00", 8), strings.Repeat("\x80\x00\x00\x01", 16), "6e836aaa43b8c4f8737cc41aa947d23d071da57a2e0cb906f2bc5e9ed5abc244"},
	} {
		if s, e := Block(c.state, c.block); s != unhex(t, c.want) || e != api.OK {
			t.Errorf("Block(%x, %x): %x %d", c.state, c.block, s, e)
		}
	}
}

func TestBlockOfWrongLengths(t *testing.T) {
	for _, state := range []int{0, 1, 4, 31, 32, 33, 36, 64} {
		for _, block := range []int{0, 1, 4, 32, 55, 60, 63, 64, 65, 68, 128} {
			s, e := Block(drawn(state), drawn(block))
			if state == 32 && block == 64 {
				if len(s) != 32 || e != api.OK {
					t.Errorf("a state of 32, a block of 64: %x %d", s, e)
				}
				continue
			}
			if s != "" || e != api.ErrArg {
				t.Errorf("a state of %d, a block of %d: %x %d", state, block, s, e)
			}
		}
	}
}

// Sh2: Pad.

func TestPadOfKnownLengths(t *testing.T) {
	for _, c := range []struct {
		n, noughts int
		length     string
	}{
		{0, 55, "0000000000000000"},
		{1, 54, "0000000000000008"},
		{3, 52, "0000000000000018"},
		{31, 24, "00000000000000f8"},
		{32, 23, "0000000000000100"},
		{54, 1, "00000000000001b0"},
		{55, 0, "00000000000001b8"},
		{56, 63, "00000000000001c0"},
		{57, 62, "00000000000001c8"},
		{63, 56, "00000000000001f8"},
		{64, 55, "0000000000000200"},
		{65, 54, "0000000000000208"},
		{119, 0, "00000000000003b8"},
		{120, 63, "00000000000003c0"},
		{127, 56, "00000000000003f8"},
		{128, 55, "0000000000000400"},
		{1<<29 - 1, 56, "00000000fffffff8"},
		{1 << 29, 55, "0000000100000000"},
		{1<<29 + 1, 54, "0000000100000008"},
		{1<<32 + 55, 0, "00000008000001b8"},
		{1<<50 - 9, 0, "001fffffffffffb8"},
		{1<<50 - 8, 63, "001fffffffffffc0"},
		{1<<50 - 1, 56, "001ffffffffffff8"},
		{1 << 50, 55, "0020000000000000"},
	} {
		want := "\x80" + strings.Repeat("\x00", c.noughts) + unhex(t, c.length)
		if p, e := Pad(c.n); p != want || e != api.OK {
			t.Errorf("Pad(%d): %x %d", c.n, p, e)
		}
	}
}

func TestPadOfLengthsOutOfBounds(t *testing.T) {
	for _, n := range []int{-1, -8, -9, -55, -56, -64, math.MinInt, 1<<50 + 1, 1<<50 + 64, 1 << 60, 1 << 61, math.MaxInt} {
		if p, e := Pad(n); p != "" || e != api.ErrArg {
			t.Errorf("Pad(%d): %x %d", n, p, e)
		}
	}
}

func TestPadHasAsFewNoughtsAsMayBe(t *testing.T) {
	for _, about := range []int{130, 1 << 20, 1<<31 - 1, 1<<50 - 130} {
		for n := about - 130; n <= about+130; n++ {
			p, e := Pad(n)
			if e != api.OK || len(p) < 9 || len(p) > 72 || (n+len(p))%64 != 0 {
				t.Fatalf("Pad(%d): %x %d", n, p, e)
			}
			if p[0] != 0x80 || strings.Trim(p[1:len(p)-8], "\x00") != "" {
				t.Errorf("Pad(%d): %x", n, p)
			}
			if binary.BigEndian.Uint64([]byte(p[len(p)-8:])) != uint64(8*n) {
				t.Errorf("Pad(%d): %x", n, p)
			}
		}
	}
}

// Sh2: Sum.

func TestSumOfKnownTexts(t *testing.T) {
	for _, c := range []struct{ s, want string }{
		{"", "e3b0c44298fc1c149afbf4c8996fb92427ae41e4649b934ca495991b7852b855"},
		{"abc", "ba7816bf8f01cfea414140de5dae2223b00361a396177a9cb410ff61f20015ad"},
		{"abcdbcdecdefdefgefghfghighijhijkijkljklmklmnlmnomnopnopq", "248d6a61d20638b8e5c026930c3e6039a33ce45964ff2167f6ecedd419db06c1"},
		{
			"abcdefghbcdefghicdefghijdefghijkefghijklfghijklmghijklmnhijklmnoijklmnopjklmnopqklmnopqrlmnopqrsmnopqrstnopqrstu",
			"cf5b16a778af8380036ce59e7b0492370b249b11e8f07a51afac45037afee9d1",
		},
		{strings.Repeat("a", 55), "9f4390f8d30c2dd92ec9f095b65e2b9ae9b0a925a5258e241c9f1e910f734318"},
		{strings.Repeat("a", 56), "b35439a4ac6f0948b6d6f9e3c6af0f5f590ce20f1bde7090ef7970686ec6738a"},
		{strings.Repeat("a", 63), "7d3e74a05d7db15bce4ad9ec0658ea98e3f06eeecf16b4c6fff2da457ddc2f34"},
		{strings.Repeat("a", 64), "ffe054fe7ae0cb6dc65c3af9b61d5209f439851db43d0ba5997337df154668eb"},
		{strings.Repeat("a", 65), "635361c48bb9eab14198e76ea8ab7f1a41685d6ad62aa9146d301d4f17eb0ae0"},
		{strings.Repeat("a", 300), "9835fa6bf4e20a9b9ea812506302e98982721a6cf8d2cae67af57129bf21ae90"},
		{strings.Repeat("a", 1000000), "cdc76e5c9914fb9281a1c7e284d73e67f1809a48a497200e046d39ccc7112cd0"},
	} {
		if got := Sum(c.s); got != unhex(t, c.want) {
			t.Errorf("the sum of %d bytes: %x, not %s", len(c.s), got, c.want)
		}
	}
}

func TestSumOfTextsOfAllLengths(t *testing.T) {
	for n := range 700 {
		if s := drawn(n); Sum(s) != other(s) {
			t.Errorf("the sum of %d bytes: %x, not %x", n, Sum(s), other(s))
		}
	}
	for _, n := range []int{1 << 12, 1<<12 + 55, 1<<12 + 56, api.MaxText - 1, api.MaxText, 1<<20 + 1} {
		if s := drawn(n); Sum(s) != other(s) {
			t.Errorf("the sum of %d bytes: %x, not %x", n, Sum(s), other(s))
		}
	}
}

func TestSumOfEachByte(t *testing.T) {
	for c := range 256 {
		for _, n := range []int{1, 55, 56, 64, 130} {
			if s := strings.Repeat(string([]byte{byte(c)}), n); Sum(s) != other(s) {
				t.Errorf("the sum of %d bytes %d: %x, not %x", n, c, Sum(s), other(s))
			}
		}
	}
}

// Sh3.

func TestASumHas32Bytes(t *testing.T) {
	for n := range 200 {
		if got := Sum(drawn(n)); len(got) != 32 {
			t.Errorf("the sum of %d bytes has %d", n, len(got))
		}
	}
	if len(Begin()) != 32 {
		t.Error(len(Begin()))
	}
}

func TestBlocksMayBeSummedAsTheyCome(t *testing.T) {
	for _, n := range []int{0, 1, 54, 55, 56, 63, 64, 65, 119, 120, 127, 128, 129, 500, 1000} {
		s := drawn(n)
		state, rest := Begin(), ""
		for i := range len(s) {
			rest += s[i : i+1]
			if len(rest) == 64 {
				state, rest = behindOne(t, state, rest), ""
			}
		}
		pad, e := Pad(n)
		if e != api.OK {
			t.Fatal(n, e)
		}
		for rest += pad; rest != ""; rest = rest[64:] {
			state = behindOne(t, state, rest[:64])
		}
		if state != Sum(s) {
			t.Errorf("%d bytes: %x, not %x", n, state, Sum(s))
		}
	}
}

func behindOne(t *testing.T, state, block string) string {
	t.Helper()
	next, e := Block(state, block)
	if e != api.OK || len(next) != 32 {
		t.Fatalf("%x %d", next, e)
	}
	return next
}

// R3, R4: the same arguments, the same answers, whatever was called between, and however the text lies in memory.

func TestAnswersHangOnArgumentsAlone(t *testing.T) {
	tell := func() []string {
		var l []string
		for n := range 130 {
			s := drawn(n + 64)
			state, _ := Block(Sum(s), s[n:])
			pad, _ := Pad(n)
			l = append(l, Begin(), Sum(s), Sum(s[n:]), state, pad)
		}
		return l
	}
	first := tell()
	Sum("abc")
	Block("", "")
	Pad(-1)
	if !slices.Equal(first, tell()) {
		t.Error("the second time it was otherwise")
	}
}
