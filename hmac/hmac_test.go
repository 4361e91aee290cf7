package hmac

import (
	stdhmac "crypto/hmac"
	"crypto/sha256"
	"encoding/hex"
	"math/rand"
	"slices"
	"strings"
	"testing"

	"samphire/api"
	"samphire/sha"
)

// drawn is a text of n bytes, the same one in each run.
func drawn(n int) string {
	b := make([]byte, n)
	rand.New(rand.NewSource(int64(n))).Read(b)
	return string(b)
}

// other is the sum of a text under a key, as another program has it.
func other(key, s string) string {
	h := stdhmac.New(sha256.New, []byte(key))
	h.Write([]byte(s))
	return string(h.Sum(nil))
}

func unhex(t *testing.T, s string) string {
	t.Helper()
	b, err := hex.DecodeString(s)
	if err != nil {
		t.Fatal(err)
	}
	return string(b)
}

// Hm1: Mac.

func TestMacOfTheChaptersExample(t *testing.T) {
	want := unhex(t, "5bdcc146bf60754e6a042426089575c75a003f089d2739839dec58b964ec3843")
	if got := Mac("Jefe", "what do ya want for nothing?"); got != want {
		t.Errorf("%x", got)
	}
}

func TestMacOfTheTextsOfRFC4231(t *testing.T) {
	for _, c := range []struct{ key, s, want string }{
		{strings.Repeat("\x0b", 20), "Hi There", "b0344c61d8db38535ca8afceaf0bf12b881dc200c9833da726e9376c2e32cff7"},
		{strings.Repeat("\xaa", 20), strings.Repeat("\xdd", 50), "773ea91e36800e46854db8ebd09181a72959098b3ef8c122d9635514ced565fe"},
		{
			"\x01\x02\x03\x04\x05\x06\x07\x08\x09\x0a\x0b\x0c\x0d\x0e\x0f\x10\x11\x12\x13\x14\x15\x16\x17\x18\x19",
			strings.Repeat("\xcd", 50),
			"82558a389a443c0ea4cc819899f2083a85f0faa3e578f8077a2e3ff46729665b",
		},
		{
			strings.Repeat("\xaa", 131),
			"Test Using Larger Than Block-Size Key - Hash Key First",
			"60e431591ee0b67f0d8a26aacbf5b77f8e0bc6213728c5140546040f0ee37f54",
		},
		{
			strings.Repeat("\xaa", 131),
			"This is a test using a larger than block-size key and a larger than block-size data. " +
				"The key needs to be hashed before being used by the HMAC algorithm.",
			"9b09ffa71b942fcb27635fbcd5b0e944bfdc63644f0713938a7f51535c3a35e2",
		},
	} {
		if got := Mac(c.key, c.s); got != unhex(t, c.want) {
			t.Errorf("%d bytes under a key of %d: %x, not %s", len(c.s), len(c.key), got, c.want)
		}
	}
}

func TestMacUnderKeysAboutABlock(t *testing.T) {
	for _, c := range []struct {
		key          int
		empty, three string
	}{
		{0, "b613679a0814d9ec772f95d778c35fc5ff1697c493715653c6c712144292c5ad", "fd7adb152c05ef80dccf50a1fa4c05d5a3ec6da95575fc312ae7c5d091836351"},
		{1, "8bb990c40a7d61cb97597a942125025be50ac8beb74436e3735b98893a7f6620", "342e519ce0ad6c03a36b98eeb3f1d130db4813b9df4d1160eda488d712dc78ee"},
		{63, "a73e4ae46b2a9f2402fff056e156c0a25551e3db5097f9367522239bfbc2d02e", "23670528b6b8c55d2f8ef2f36c1f000cec7c23ec76881c485f2e89b5fe705cca"},
		{64, "83026a325aaee70e36cfe607536aa1054104ad1077c36134810d4ccded1ccd3b", "ae0c0e4a2340cf50185eb46aaa8723f4769153661612e212fb0d1fa3170c6202"},
		{65, "41f1c4cc3107cd5b8d92460f61032902bfdb06484eef17e861b83a5012d3b7f3", "ed378e5dfa30dc98814ba09b2e610d9b6af66054922ceef9480da094a3f11b2d"},
		{300, "bc408149daa8e43de046098ef847395ddf9da2484ad428815887386c667d5fdc", "b3a38d46719789dfefed34be1021ac39431c5163a6858e1a63eb7413278d9435"},
	} {
		key := strings.Repeat("k", c.key)
		if got := Mac(key, ""); got != unhex(t, c.empty) {
			t.Errorf("no byte under a key of %d: %x, not %s", c.key, got, c.empty)
		}
		if got := Mac(key, "abc"); got != unhex(t, c.three) {
			t.Errorf("abc under a key of %d: %x, not %s", c.key, got, c.three)
		}
	}
}

func TestMacOfTextsAboutABlock(t *testing.T) {
	for _, c := range []struct {
		n    int
		want string
	}{
		{0, "923598ca6d64af2a5dba79dcd021a8a0fe5c5f557519adaaf0ad532d4506dd30"},
		{1, "71fec6c11ce8e5683326c0b3d9a6e45bee113b32abc2b8fb1de8e2c12f607b2c"},
		{55, "290d2fb7eb5dfb608a006bada9a090a9b6d03702b321a59375214b24e0f8e265"},
		{56, "cca8b237675f240577a563326cdb3c4dcc8025863d4bde2f80b791ae487157dd"},
		{63, "d5a2cc4f5249d473b4f091c95456f7a893b3729d206317c398d92c0a50f4de00"},
		{64, "2213fe4597fb22997da920e89da4e545b17a89b729261d708d75833af149fe53"},
		{65, "753d6462cb31d31af5783757c0bdca5aa8bf1cde4a413aebf5814f817e3ed42a"},
		{119, "c9b52f38eec8c1c8dc88725a47f190cb454cd556aac617c31da75242dfc8fee4"},
		{120, "13ea187f896aa8dc16d78eae6c82369c2fbf4c90c49d15c8ecb33f541f7c2f92"},
		{128, "27fea4a11fc9c6cc9b8e0c58033fc575f6885b2c3d6569f7d9fb9e3edb1a7766"},
	} {
		if got := Mac("Jefe", strings.Repeat("a", c.n)); got != unhex(t, c.want) {
			t.Errorf("%d bytes: %x, not %s", c.n, got, c.want)
		}
	}
}

func TestMacUnderKeysOfAllLengths(t *testing.T) {
	for n := range 200 {
		key := drawn(n)
		for _, length := range []int{0, 1, 32, 55, 56, 63, 64, 65, 300} {
			s := drawn(1000 + length)[1000:]
			if got := Mac(key, s); got != other(key, s) {
				t.Errorf("%d bytes under a key of %d: %x, not %x", length, n, got, other(key, s))
			}
		}
	}
	for _, n := range []int{400, 1000, api.MaxText, api.MaxText + 1} {
		if key, s := drawn(n), drawn(n+1); Mac(key, s) != other(key, s) {
			t.Errorf("%d bytes under a key of %d: %x, not %x", n+1, n, Mac(key, s), other(key, s))
		}
	}
}

func TestMacOfTextsOfAllLengths(t *testing.T) {
	key := drawn(api.KeySize)
	for n := range 400 {
		if s := drawn(n); Mac(key, s) != other(key, s) {
			t.Errorf("%d bytes: %x, not %x", n, Mac(key, s), other(key, s))
		}
	}
}

func TestMacOfEachByte(t *testing.T) {
	for c := range 256 {
		s := string([]byte{byte(c)})
		for _, n := range []int{1, 63, 64, 65} {
			if key := strings.Repeat(s, n); Mac(key, s) != other(key, s) {
				t.Errorf("the byte %d under %d of it: %x, not %x", c, n, Mac(key, s), other(key, s))
			}
		}
	}
}

func TestMacHas32Bytes(t *testing.T) {
	for n := range 130 {
		if got := Mac(drawn(n), drawn(130-n)); len(got) != api.SumSize {
			t.Errorf("under a key of %d bytes: %d", n, len(got))
		}
	}
}

func TestTheEndOfAKeyIsNotTheBeginningOfAText(t *testing.T) {
	if Mac("ab", "c") == Mac("a", "bc") || Mac("abc", "") == Mac("", "abc") {
		t.Error("they are the same")
	}
}

// Hm1: Check.

func TestCheckOfTheRightSum(t *testing.T) {
	for _, n := range []int{0, 1, 32, 63, 64, 65, 300} {
		for _, length := range []int{0, 1, 55, 63, 64, 65, 300} {
			key, s := drawn(n), drawn(1000 + length)[1000:]
			if !Check(key, s, other(key, s)) {
				t.Errorf("%d bytes under a key of %d: not so", length, n)
			}
		}
	}
}

func TestCheckOfASumWithABitTurned(t *testing.T) {
	for _, key := range []string{"", "Jefe", drawn(64), drawn(65)} {
		mac := other(key, "text")
		for i := range len(mac) {
			for bit := range 8 {
				b := []byte(mac)
				b[i] ^= 1 << bit
				if Check(key, "text", string(b)) {
					t.Errorf("the bit %d of the byte %d, under a key of %d bytes: it is taken", bit, i, len(key))
				}
			}
		}
	}
}

func TestCheckOfASumWithTwoBytesChangedAlike(t *testing.T) {
	mac := other("Jefe", "text")
	for i := range len(mac) - 1 {
		b := []byte(mac)
		b[i] ^= 0x81
		b[i+1] ^= 0x81
		if Check("Jefe", "text", string(b)) {
			t.Errorf("the bytes %d and %d: it is taken", i, i+1)
		}
	}
}

func TestCheckOfASumOfAnotherLength(t *testing.T) {
	mac := other("Jefe", "text")
	for n := range len(mac) {
		if Check("Jefe", "text", mac[:n]) || Check("Jefe", "text", mac[len(mac)-n:]) {
			t.Errorf("%d bytes of it: it is taken", n)
		}
	}
	for _, behind := range []string{"\x00", "a", mac} {
		if Check("Jefe", "text", mac+behind) || Check("Jefe", "text", behind+mac) {
			t.Errorf("with %x: it is taken", behind)
		}
	}
}

func TestCheckOfASumOfAnotherTextOrKey(t *testing.T) {
	mac := other("Jefe", "text")
	for _, c := range [][2]string{
		{"Jefe", "texT"}, {"Jefe", "text\x00"}, {"Jefe", "tex"}, {"Jefe", ""},
		{"jefe", "text"}, {"Jef", "text"}, {"", "text"}, {"\x00Jefe", "text"}, {"text", "Jefe"},
	} {
		if Check(c[0], c[1], mac) {
			t.Errorf("%q under %q: it is taken", c[1], c[0])
		}
	}
	if Check("Jefe", "text", hex.EncodeToString([]byte(mac))) || Check("Jefe", "text", sha.Sum("text")) {
		t.Error("what is no sum under a key is taken")
	}
}

// Hm2.

func TestALongKeyCountsAsItsSum(t *testing.T) {
	for _, n := range []int{65, 66, 96, 127, 128, 129, 300, 1000} {
		key := drawn(n)
		if mac := Mac(key, "text"); mac != Mac(sha.Sum(key), "text") || !Check(sha.Sum(key), "text", mac) {
			t.Errorf("a key of %d bytes: %x", n, mac)
		}
		if Mac(key, "text") == Mac(key[:64], "text") {
			t.Errorf("a key of %d bytes is cut", n)
		}
	}
}

func TestAShortKeyDoesNotCountAsItsSum(t *testing.T) {
	for _, n := range []int{0, 1, 32, 63, 64} {
		key := drawn(n)
		if Mac(key, "text") == Mac(sha.Sum(key), "text") {
			t.Errorf("a key of %d bytes", n)
		}
	}
}

func TestAKeyWithNoughtsBehindItCountsAsItself(t *testing.T) {
	for _, n := range []int{0, 1, 20, 32, 62, 63, 64} {
		key := drawn(n)
		mac := Mac(key, "text")
		for noughts := range 64 - n + 1 {
			longer := key + strings.Repeat("\x00", noughts)
			if Mac(longer, "text") != mac || !Check(longer, "text", mac) {
				t.Errorf("a key of %d bytes with %d noughts", n, noughts)
			}
		}
		if beyond := key + strings.Repeat("\x00", 65-n); Mac(beyond, "text") == mac || Check(beyond, "text", mac) {
			t.Errorf("a key of %d bytes with noughts up to 65", n)
		}
	}
}

func TestNoughtsAheadOfAKeyCount(t *testing.T) {
	for _, n := range []int{1, 32, 63} {
		if key := drawn(n); Mac("\x00"+key, "text") == Mac(key, "text") {
			t.Errorf("a key of %d bytes", n)
		}
	}
}

// R3, R4: the same arguments, the same answers, whatever was called between, and however the texts lie in memory.

func TestAnswersHangOnArgumentsAlone(t *testing.T) {
	tell := func() []string {
		var l []string
		for n := range 130 {
			s := drawn(200)
			l = append(l, Mac(s[:n], s[n:]), Mac(s[n:], s[:n]), Mac(drawn(n), drawn(n)))
		}
		return l
	}
	first := tell()
	Mac("", "")
	Check("Jefe", "text", "")
	if !slices.Equal(first, tell()) {
		t.Error("the second time it was otherwise")
	}
}
