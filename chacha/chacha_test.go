package chacha

import (
	"crypto/sha256"
	"encoding/binary"
	"encoding/hex"
	"math"
	"math/bits"
	"math/rand"
	"slices"
	"strings"
	"testing"

	"samphire/api"
)

// last is the last counter.
const last = 1<<32 - 1

// drawn is a text of n bytes, the same one in each run.
func drawn(n int) string {
	b := make([]byte, n)
	rand.New(rand.NewSource(int64(n))).Read(b)
	return string(b)
}

func unhex(t *testing.T, s string) string {
	t.Helper()
	b, err := hex.DecodeString(s)
	if err != nil {
		t.Fatal(err)
	}
	return string(b)
}

// knownKey and knownNonce are those of RFC 8439's block.
func knownKey() string {
	b := make([]byte, 32)
	for i := range b {
		b[i] = byte(i)
	}
	return string(b)
}

func knownNonce() string { return "\x00\x00\x00\x09\x00\x00\x00\x4a\x00\x00\x00\x00" }

// knownText are the first n bytes of the text whose streams are known.
func knownText(n int) string {
	b := make([]byte, n)
	for i := range b {
		b[i] = byte(7*i + i/256)
	}
	return string(b)
}

// blockOf is what Block answers where it must not refuse.
func blockOf(t *testing.T, key, nonce string, counter int) string {
	t.Helper()
	s, e := Block(key, nonce, counter)
	if e != api.OK || len(s) != 64 {
		t.Fatalf("the block of %d: %d bytes, the error %d", counter, len(s), e)
	}
	return s
}

// streamOf is what Stream answers where it must not refuse.
func streamOf(t *testing.T, key, nonce string, counter int, s string) string {
	t.Helper()
	got, e := Stream(key, nonce, counter, s)
	if e != api.OK || len(got) != len(s) {
		t.Fatalf("%d bytes from %d on: %d bytes, the error %d", len(s), counter, len(got), e)
	}
	return got
}

// otherQuarter turns four words where they stand.
func otherQuarter(a, b, c, d *uint32) {
	for _, n := range [][2]int{{16, 12}, {8, 7}} {
		*a += *b
		*d = bits.RotateLeft32(*d^*a, n[0])
		*c += *d
		*b = bits.RotateLeft32(*b^*c, n[1])
	}
}

// otherBlock is a block, told once more in another way: a square of words, its columns and its diagonals.
func otherBlock(key, nonce string, counter int) string {
	text := "expand 32-byte k" + key + string(binary.LittleEndian.AppendUint32(nil, uint32(counter))) + nonce
	var first, x [4][4]uint32
	for i := range 16 {
		first[i/4][i%4] = binary.LittleEndian.Uint32([]byte(text[4*i:]))
	}
	x = first
	for n := range 20 {
		for i := range 4 {
			slant := n % 2
			otherQuarter(&x[0][i], &x[1][(i+slant)%4], &x[2][(i+2*slant)%4], &x[3][(i+3*slant)%4])
		}
	}
	var b []byte
	for i := range 16 {
		b = binary.LittleEndian.AppendUint32(b, x[i/4][i%4]+first[i/4][i%4])
	}
	return string(b)
}

// otherStream is a stream of such blocks.
func otherStream(key, nonce string, counter int, s string) string {
	b := []byte(s)
	block := ""
	for i := range b {
		if i%64 == 0 {
			block = otherBlock(key, nonce, counter+i/64)
		}
		b[i] ^= block[i%64]
	}
	return string(b)
}

// Cc1: Quarter.

func TestQuarterOfTheChaptersExample(t *testing.T) {
	got := Quarter([4]int{0x11111111, 0x01020304, 0x9b8d6f43, 0x01234567})
	if want := [4]int{0xea2a92f4, 0xcb1cf8ce, 0x4581472e, 0x5881c4bb}; got != want {
		t.Errorf("%x", got)
	}
}

func TestQuarterOfKnownWords(t *testing.T) {
	for _, c := range [][2][4]int{
		{{0, 0, 0, 0}, {0, 0, 0, 0}},
		{{0x516461b1, 0x2a5f714c, 0x53372767, 0x3d631689}, {0xbdb886dc, 0xcfacafd2, 0xe46bea80, 0xccc07c79}},
		{{1, 0, 0, 0}, {0x10000001, 0x80808808, 0x01010110, 0x01000110}},
		{{0, 0, 0, 0x80000000}, {0x08000000, 0x40400404, 0x00808008, 0x00800008}},
		{{last, last, last, last}, {0xf0000ffd, 0x88790878, 0x0110fdef, 0x010ffdf0}},
	} {
		if got := Quarter(c[0]); got != c[1] {
			t.Errorf("%x: %x, not %x", c[0], got, c[1])
		}
	}
}

func TestQuarterBesideAnotherWay(t *testing.T) {
	draw := rand.New(rand.NewSource(5))
	for range 2000 {
		a, b, c, d := draw.Uint32(), draw.Uint32(), draw.Uint32(), draw.Uint32()
		x := [4]int{int(a), int(b), int(c), int(d)}
		otherQuarter(&a, &b, &c, &d)
		if got := Quarter(x); got != [4]int{int(a), int(b), int(c), int(d)} {
			t.Errorf("%x: %x", x, got)
		}
	}
}

func TestQuarterOfNumbersThatAreNoWords(t *testing.T) {
	edges := []int{-1, -2, math.MinInt, math.MinInt + 1, math.MinInt32, math.MinInt32 - 1, -1 << 32, -1<<32 - 1, -1<<32 + 1,
		0, 1, last, 1 << 32, 1<<32 + 1, 1<<33 - 1, 1<<63 - 1<<31, math.MaxInt, math.MaxInt - 1}
	draw := rand.New(rand.NewSource(6))
	for range 4 * len(edges) {
		var x, low [4]int
		for i := range x {
			x[i] = edges[draw.Intn(len(edges))]
			low[i] = x[i] & last
		}
		if Quarter(x) != Quarter(low) {
			t.Errorf("%d: %x, not %x", x, Quarter(x), Quarter(low))
		}
	}
	for place := range 4 {
		for _, n := range edges {
			x := [4]int{0x11111111, 0x01020304, 0x9b8d6f43, 0x01234567}
			x[place] = n
			low := x
			low[place] &= last
			got := Quarter(x)
			if got != Quarter(low) {
				t.Errorf("%d at %d: %x, not %x", n, place, got, Quarter(low))
			}
			for _, w := range got {
				if w < 0 || w > last {
					t.Errorf("%d at %d: %x is no word", n, place, w)
				}
			}
		}
	}
	far := [4]int{0x11111111 - 1<<32, 0x01020304 + 1<<32, 0x9b8d6f43 - 1<<40, 0x01234567 + 1<<62}
	if got := Quarter(far); got != [4]int{0xea2a92f4, 0xcb1cf8ce, 0x4581472e, 0x5881c4bb} {
		t.Errorf("the example from afar: %x", got)
	}
}

// Cc1: Block.

func TestKnownBlocks(t *testing.T) {
	noughts, none := strings.Repeat("\x00", 32), strings.Repeat("\x00", 12)
	for _, c := range []struct {
		key, nonce string
		counter    int
		want       string
	}{
		{knownKey(), knownNonce(), 1, "10f1e7e4d13b5915500fdd1fa32071c4c7d1f4c733c068030422aa9ac3d46c4ed2826446079faa0914c2d705d98b02a2b5129cd1de164eb9cbd083e8a2503c4e"},
		{noughts, none, 0, "76b8e0ada0f13d90405d6ae55386bd28bdd219b8a08ded1aa836efcc8b770dc7da41597c5157488d7724e03fb8d84a376a43b8f41518a11cc387b669b2ee6586"},
		{noughts, none, 1, "9f07e7be5551387a98ba977c732d080dcb0f29a048e3656912c6533e32ee7aed29b721769ce64e43d57133b074d839d531ed1f28510afb45ace10a1f4b794d6f"},
		{noughts[:31] + "\x01", none, 1, "3aeb5224ecf849929b9d828db1ced4dd832025e8018b8160b82284f3c949aa5a8eca00bbb4a73bdad192b5c42f73f2fd4e273644c8b36125a64addeb006c13a0"},
		{"\x00\xff" + noughts[:30], none, 2, "72d54dfbf12ec44b362692df94137f328fea8da73990265ec1bbbea1ae9af0ca13b25aa26cb4a648cb9b9d1be65b2c0924a66c54d545ec1b7374f4872e99f096"},
		{noughts, none[:11] + "\x02", 0, "c2c64d378cd536374ae204b9ef933fcd1a8b2288b3dfa49672ab765b54ee27c78a970e0e955c14f3a88e741b97c286f75f8fc299e8148362fa198a39531bed6d"},
		{knownKey(), knownNonce(), 1<<31 - 1, "02c70b58c51c334271e4620ca0592ec09518c06f9b4c89d41ba9bf9c90518f2b946f3568416c381a02cdc045dce4215ad002f237cd35400b6ad1a88ffdcf4fa0"},
		{knownKey(), knownNonce(), 1 << 31, "4c76f034662332641d91b481c074c7454e969ecae52c92c9df756ba56a7cd932d4750c0d1e0609fc44ee6681cd75bdad5a82f37b3586029e9a89a64726396f47"},
		{knownKey(), knownNonce(), last, "ff2941b8d740f6cbb50936bf997ebd5218cb108dc53f41c64841d0218167430ca03b770ca74ccb642a28194d1dedd2ed13151e25ec5d7faeb6d060bfb7e6b146"},
		{noughts, none, last, "ace4cd09e294d1912d4ad205d06f95d9c2f2bfcf453e8753f128765b62215f4d92c74f2f626c6a640c0b1284d839ec81f1696281dafc3e684593937023b58b1d"},
		{strings.Repeat("\xff", 32), strings.Repeat("\xff", 12), last, "d72b21cfa4b6b0c41d61f62b8a11159c6a4f63bc56c2035796c7ad37811121bbec56d54a530f3a933dd28a50feb23bfaf64f405be985f3718bdf4683e96be749"},
	} {
		if got := blockOf(t, c.key, c.nonce, c.counter); got != unhex(t, c.want) {
			t.Errorf("the counter %d under %x: %x, not %s", c.counter, c.key, got, c.want)
		}
	}
}

func TestBlocksBesideAnotherWay(t *testing.T) {
	draw := rand.New(rand.NewSource(7))
	for range 500 {
		s := make([]byte, 44)
		draw.Read(s)
		key, nonce, counter := string(s[:32]), string(s[32:]), int(draw.Uint32())
		if got := blockOf(t, key, nonce, counter); got != otherBlock(key, nonce, counter) {
			t.Errorf("%x, %x, %d: %x", key, nonce, counter, got)
		}
	}
}

func TestEachByteOfKeyAndNonceCounts(t *testing.T) {
	key, nonce := knownKey(), knownNonce()
	one := blockOf(t, key, nonce, 1)
	turned := func(s string, i int) string {
		b := []byte(s)
		b[i] ^= 0x80
		return string(b)
	}
	for i := range len(key) {
		if blockOf(t, turned(key, i), nonce, 1) == one {
			t.Errorf("the byte %d of the key does not count", i)
		}
	}
	for i := range len(nonce) {
		if blockOf(t, key, turned(nonce, i), 1) == one {
			t.Errorf("the byte %d of the nonce does not count", i)
		}
	}
	for i := range 32 {
		if blockOf(t, key, nonce, 1^1<<i) == one {
			t.Errorf("the bit %d of the counter does not count", i)
		}
	}
}

// Cc1, Cc2, R1, R2: keys, nonces and counters that may not be.

func TestWrongKeysNoncesAndCounters(t *testing.T) {
	refused := func(key, nonce string, counter int) {
		t.Helper()
		if s, e := Block(key, nonce, counter); s != "" || e != api.ErrArg {
			t.Errorf("the block of %d, a key of %d, a nonce of %d: %d bytes, %d", counter, len(key), len(nonce), len(s), e)
		}
		for _, text := range []string{"", "a", drawn(65)} {
			if s, e := Stream(key, nonce, counter, text); s != "" || e != api.ErrArg {
				t.Errorf("%d bytes from %d on, a key of %d, a nonce of %d: %d bytes, %d", len(text), counter, len(key), len(nonce), len(s), e)
			}
		}
	}
	key, nonce := knownKey(), knownNonce()
	for _, n := range []int{0, 1, 4, 12, 16, 28, 31, 33, 36, 64, 65536} {
		refused(drawn(n), nonce, 0)
	}
	for _, n := range []int{0, 1, 4, 8, 11, 13, 16, 24, 32, 65536} {
		refused(key, drawn(n), 0)
	}
	// Of the right length together, and yet each wrong.
	refused(key[:31], nonce+"a", 0)
	refused(key+"a", nonce[:11], 0)
	refused(nonce, key, 0)
	refused(key[:28], nonce+"abcd", 0)
	for _, n := range []int{-1, -2, -64, math.MinInt32, -1 << 32, -last, math.MinInt, math.MinInt + 1,
		1 << 32, 1<<32 + 1, 1 << 33, 1 << 40, 1 << 58, 1 << 62, math.MaxInt - 1, math.MaxInt} {
		refused(key, nonce, n)
	}
	refused("", "", -1)
}

// Cc2.

func TestStreamOfRFC8439(t *testing.T) {
	text := "Ladies and Gentlemen of the class of '99: If I could offer you only one tip for the future, sunscreen would be it."
	want := unhex(t, "6e2e359a2568f98041ba0728dd0d6981e97e7aec1d4360c20a27afccfd9fae0bf91b65c5524733ab8f593dabcd62b357"+
		"1639d624e65152ab8f530c359f0861d807ca0dbf500d6a6156a38e088a22b65e52bc514d16ccf806818ce91ab77937365af90bbf74a35be6b40b8eedf2785e42874d")
	nonce := "\x00\x00\x00\x00\x00\x00\x00\x4a\x00\x00\x00\x00"
	if got := streamOf(t, knownKey(), nonce, 1, text); got != want {
		t.Errorf("%x", got)
	}
}

func TestStreamsOfKnownTexts(t *testing.T) {
	want := unhex(t, "8adb9fe883d7dac42330eb1dab4eb45e947983278a5fc8662b08f4bd94f7c75b"+
		"2d7fddc381095ec46523b8b4bb724cafccf4127a959a4326dd0b53b0cda1876dd0")
	for _, n := range []int{0, 1, 63, 64, 65} {
		if got := streamOf(t, knownKey(), knownNonce(), 0, knownText(n)); got != want[:n] {
			t.Errorf("%d bytes: %x", n, got)
		}
	}
	for _, c := range []struct {
		counter int
		want    string
	}{
		{0, "10b2b486c0935cac457997c8c27eca8e76658e76cc2cfe3903ed3af1279c3a97"},
		{1, "43ee4da662c7aeeedee735fc3e4eb688dadb07b5fb1b260ba5344272d43dc10b"},
		{last - 1023, "7a5ef14512e1973dea919e224b2e2d17c640a18951297a0f825adf4f2c370692"},
	} {
		got := streamOf(t, knownKey(), knownNonce(), c.counter, knownText(65536))
		if sum := sha256.Sum256([]byte(got)); string(sum[:]) != unhex(t, c.want) {
			t.Errorf("65536 bytes from %d on: their sum %x, not %s", c.counter, sum, c.want)
		}
	}
}

func TestStreamIsTheTextTurnedIntoTheBlocks(t *testing.T) {
	key, nonce := drawn(32), drawn(12)
	for _, counter := range []int{0, 1, 255, 65535, 1<<31 - 1, last - 1023} {
		for _, n := range []int{0, 1, 2, 62, 63, 64, 65, 127, 128, 129, 1000, 65535, 65536} {
			text := drawn(n)
			got := streamOf(t, key, nonce, counter, text)
			for i := 0; i < n; i += 64 {
				block := blockOf(t, key, nonce, counter+i/64)
				for k := i; k < min(i+64, n); k++ {
					if got[k] != text[k]^block[k-i] {
						t.Fatalf("%d bytes from %d on: the byte %d: %x", n, counter, k, got[k])
					}
				}
			}
		}
	}
}

func TestStreamsOfAllLengthsBesideAnotherWay(t *testing.T) {
	key, nonce := drawn(32), drawn(12)
	for n := range 400 {
		if got := streamOf(t, key, nonce, n, drawn(n)); got != otherStream(key, nonce, n, drawn(n)) {
			t.Errorf("%d bytes: %x", n, got)
		}
	}
}

func TestStreamOfNoughtsAreTheBlocksThemselves(t *testing.T) {
	got := streamOf(t, knownKey(), knownNonce(), 1, strings.Repeat("\x00", 150))
	want := ""
	for i := range 3 {
		want += blockOf(t, knownKey(), knownNonce(), 1+i)
	}
	if got != want[:150] {
		t.Errorf("%x", got)
	}
}

func TestStreamOfNoByteIsOK(t *testing.T) {
	for _, counter := range []int{0, 1, last - 1, last} {
		if s, e := Stream(knownKey(), knownNonce(), counter, ""); s != "" || e != api.OK {
			t.Errorf("from %d on: %q, %d", counter, s, e)
		}
	}
}

func TestStreamOfTooLongATextIsRefused(t *testing.T) {
	for _, n := range []int{65537, 65538, 65600, 1 << 17, 1 << 20} {
		for _, counter := range []int{0, 1, last - 1024, last} {
			if s, e := Stream(knownKey(), knownNonce(), counter, strings.Repeat("a", n)); s != "" || e != api.ErrArg {
				t.Errorf("%d bytes from %d on: %d bytes, %d", n, counter, len(s), e)
			}
		}
	}
}

func TestStreamFromTheLastCountersOn(t *testing.T) {
	key, nonce := knownKey(), knownNonce()
	for _, blocks := range []int{1, 2, 3, 4, 100, 1023} {
		counter := last - blocks + 1
		for _, n := range []int{0, 1, 63, 64 * (blocks - 1), 64*blocks - 1, 64 * blocks} {
			if got := streamOf(t, key, nonce, counter, drawn(n)); got != otherStream(key, nonce, counter, drawn(n)) {
				t.Errorf("%d bytes from %d on: otherwise", n, counter)
			}
		}
		for _, n := range []int{64*blocks + 1, 64*blocks + 2, 64*blocks + 63, 64*blocks + 64, 65536} {
			if s, e := Stream(key, nonce, counter, drawn(n)); s != "" || e != api.ErrArg {
				t.Errorf("%d bytes from %d on: %d bytes, %d", n, counter, len(s), e)
			}
		}
	}
	streamOf(t, key, nonce, last-1023, drawn(65536))
	want := unhex(t, "bed0e7ee05a6e556556478a32886167bf2df98f5bd9ad89da4ba73ec6286e5966a6e98b03325826185df4765492a54cbb4e9cdc5336ba5cb95a6b9110c1e46d9"+
		"3fee8f6d0ba31c3a4df630b28d659f7b28fc2ec8896c1ba7202ea65c05ecd195009cd9b91b8f01b5f2f7ffa0e916d0e403020000c06e45effe9f36e2d38dc33f")
	if got := streamOf(t, key, nonce, last-1, knownText(128)); got != want {
		t.Errorf("the last two blocks: %x", got)
	}
}

// Cc3.

func TestAStreamTwiceIsTheTextItself(t *testing.T) {
	for _, counter := range []int{0, 1, 1 << 31, last - 1023} {
		for _, n := range []int{0, 1, 63, 64, 65, 127, 128, 500, 65535, 65536} {
			text := drawn(n)
			once := streamOf(t, drawn(32), drawn(12), counter, text)
			if n > 16 && once == text {
				t.Errorf("%d bytes from %d on: once is the text already", n, counter)
			}
			if streamOf(t, drawn(32), drawn(12), counter, once) != text {
				t.Errorf("%d bytes from %d on: twice is not the text", n, counter)
			}
		}
	}
}

func TestATextInPartsIsTheWhole(t *testing.T) {
	key, nonce := drawn(32), drawn(12)
	for _, counter := range []int{0, 1, 1<<31 - 2, last - 1023} {
		for _, n := range []int{0, 1, 64, 65, 128, 200, 1000, 65535, 65536} {
			text := drawn(n)
			whole := streamOf(t, key, nonce, counter, text)
			for _, blocks := range []int{1, 2, 3, 7, 512} {
				parts := ""
				for i := 0; i < n; i += 64 * blocks {
					parts += streamOf(t, key, nonce, counter+i/64, text[i:min(i+64*blocks, n)])
				}
				if parts != whole {
					t.Errorf("%d bytes from %d on, in parts of %d blocks: not the whole", n, counter, blocks)
				}
			}
		}
	}
}

func TestABeginningIsTheBeginningOfTheWhole(t *testing.T) {
	text := drawn(300)
	whole := streamOf(t, drawn(32), drawn(12), 5, text)
	for n := range len(text) {
		if streamOf(t, drawn(32), drawn(12), 5, text[:n]) != whole[:n] {
			t.Errorf("%d bytes", n)
		}
	}
}

// R3, R4: the same arguments, the same answers, whatever was called between, and however the texts lie in memory.

func TestAnswersHangOnArgumentsAlone(t *testing.T) {
	tell := func() []string {
		var l []string
		for n := range 130 {
			s := drawn(200)
			one, _ := Block(s[n:n+32], s[n+32:n+44], n)
			two, _ := Stream(s[n:n+32], s[n+32:n+44], n, s[:n])
			l = append(l, one, two)
		}
		return l
	}
	first := tell()
	Quarter([4]int{1, 2, 3, 4})
	Block("", "", 0)
	Stream(knownKey(), knownNonce(), last, drawn(65))
	Stream(knownKey(), knownNonce(), 0, drawn(65536))
	if !slices.Equal(first, tell()) {
		t.Error("the second time it was otherwise")
	}
}

func TestQuarterLeavesItsWordsAsTheyAre(t *testing.T) {
	x := [4]int{0x11111111, -1, 1 << 40, 0x01234567}
	Quarter(x)
	if x != [4]int{0x11111111, -1, 1 << 40, 0x01234567} {
		t.Errorf("%x", x)
	}
}
