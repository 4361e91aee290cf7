package poly

import (
	"encoding/hex"
	"math/big"
	"math/rand"
	"slices"
	"strings"
	"testing"

	"samphire/api"
)

// The key of RFC 8439's example, and halves of keys that are also blocks of texts.
const (
	rfcKey  = "85d6be7857556d337f4452fe42d506a80103808afb0db2fd4abff6af4149f51b"
	noughts = "\x00\x00\x00\x00\x00\x00\x00\x00\x00\x00\x00\x00\x00\x00\x00\x00"
	most    = "\xff\xff\xff\xff\xff\xff\xff\xff\xff\xff\xff\xff\xff\xff\xff\xff"
	one     = "\x01\x00\x00\x00\x00\x00\x00\x00\x00\x00\x00\x00\x00\x00\x00\x00"
	two     = "\x02\x00\x00\x00\x00\x00\x00\x00\x00\x00\x00\x00\x00\x00\x00\x00"
)

// edgeLengths are those of texts about whole blocks, and about the longest one.
var edgeLengths = []int{0, 1, 2, 14, 15, 16, 17, 31, 32, 33, 47, 48, 49, 1000, 65535, 65536}

// drawn is a text of n bytes, the same one in each run.
func drawn(n int) string {
	b := make([]byte, n)
	rand.New(rand.NewSource(int64(n))).Read(b)
	return string(b)
}

// knownText are the first n bytes of the text whose tags are known.
func knownText(n int) string {
	b := make([]byte, n)
	for i := range b {
		b[i] = byte(7*i + i/256)
	}
	return string(b)
}

func unhex(t *testing.T, s string) string {
	t.Helper()
	b, err := hex.DecodeString(s)
	if err != nil {
		t.Fatal(err)
	}
	return string(b)
}

// macOf is what Mac answers where it must not refuse.
func macOf(t *testing.T, key, s string) string {
	t.Helper()
	tag, e := Mac(key, s)
	if e != api.OK || len(tag) != 16 {
		t.Fatalf("%d bytes under %x: %d bytes, the error %d", len(s), key, len(tag), e)
	}
	return tag
}

// power is 2^n.
func power(n uint) *big.Int { return new(big.Int).Lsh(big.NewInt(1), n) }

// modulus is 2^130 - 5.
func modulus() *big.Int { return new(big.Int).Sub(power(130), big.NewInt(5)) }

// numberOf is the number of bytes, the first one the lowest.
func numberOf(s string) *big.Int {
	b := []byte(s)
	slices.Reverse(b)
	return new(big.Int).SetBytes(b)
}

// bytesOf are the lowest 128 bits of a number.
func bytesOf(n *big.Int) string {
	b := make([]byte, 16)
	new(big.Int).Mod(n, power(128)).FillBytes(b)
	slices.Reverse(b)
	return string(b)
}

// otherClamp is a clamped half, by one mask for the whole number.
func otherClamp(s string) *big.Int {
	mask, _ := new(big.Int).SetString("0ffffffc0ffffffc0ffffffc0fffffff", 16)
	return mask.And(mask, numberOf(s))
}

// otherMac is a tag, told once more with great numbers.
func otherMac(key, s string) string {
	r, a := otherClamp(key[:16]), new(big.Int)
	for block := range slices.Chunk([]byte(s), 16) {
		n := numberOf(string(block) + "\x01")
		a.Add(a, n).Mul(a, r).Mod(a, modulus())
	}
	return bytesOf(a.Add(a, numberOf(key[16:])))
}

// Py1.

func TestClampOfKnownHalves(t *testing.T) {
	for _, c := range [][2]string{
		{"ffffffffffffffffffffffffffffffff", "ffffff0ffcffff0ffcffff0ffcffff0f"},
		{"00000000000000000000000000000000", "00000000000000000000000000000000"},
		{"85d6be7857556d337f4452fe42d506a8", "85d6be0854556d037c44520e40d50608"},
		{"000000f0030000f0030000f0030000f0", "00000000000000000000000000000000"},
		{"03000003030000030300000303000003", "03000003000000030000000300000003"},
		{"04040404040404040404040404040404", "04040404040404040404040404040404"},
		{"10101010101010101010101010101010", "10101000101010001010100010101000"},
	} {
		if got, e := Clamp(unhex(t, c[0])); e != api.OK || got != unhex(t, c[1]) {
			t.Errorf("%s: %x, the error %d", c[0], got, e)
		}
	}
}

func TestClampOfEachBitAlone(t *testing.T) {
	for i := range 128 {
		b := make([]byte, 16)
		b[i/8] = 1 << (i % 8)
		want := string(b)
		if at, bit := i/8, i%8; at%4 == 3 && bit > 3 || at > 0 && at%4 == 0 && bit < 2 {
			want = noughts
		}
		if got, e := Clamp(string(b)); e != api.OK || got != want {
			t.Errorf("the bit %d: %x, the error %d", i, got, e)
		}
	}
}

func TestClampOfWhatIsClamped(t *testing.T) {
	for i := range 200 {
		s := drawn(16 + i)[i:]
		once, e := Clamp(s)
		if e != api.OK || once != bytesOf(otherClamp(s)) {
			t.Errorf("%x: %x, the error %d", s, once, e)
		}
		if twice, e := Clamp(once); e != api.OK || twice != once {
			t.Errorf("%x: %x, the error %d", once, twice, e)
		}
	}
}

func TestClampOfWrongLengths(t *testing.T) {
	for _, n := range []int{0, 1, 4, 8, 12, 14, 15, 17, 18, 20, 31, 32, 33, 65536, 65537} {
		if got, e := Clamp(drawn(n)); got != "" || e != api.ErrArg {
			t.Errorf("%d bytes: %x, the error %d", n, got, e)
		}
	}
}

// Py2: Mac.

func TestMacOfTheChaptersExample(t *testing.T) {
	key, text := unhex(t, rfcKey), "Cryptographic Forum Research Group"
	want := unhex(t, "a8061dc1"+"305136c6"+"c22b8baf"+"0c0127a9")
	if got, e := Mac(key, text); e != api.OK || got != want {
		t.Errorf("%x, the error %d", got, e)
	}
	if !Check(key, text, want) {
		t.Error("the tag is not taken")
	}
}

func TestMacOfRFC8439(t *testing.T) {
	terms := `Any submission to the IETF intended by the Contributor for publication as all or part of an IETF Internet-Draft or RFC ` +
		`and any statement made within the context of an IETF activity is considered an "IETF Contribution". Such statements include ` +
		`oral statements in IETF sessions, as well as written and electronic communications made at any time or place, which are addressed to`
	poem := "'Twas brillig, and the slithy toves\nDid gyre and gimble in the wabe:\nAll mimsy were the borogoves,\nAnd the mome raths outgrabe."
	half := unhex(t, "36e5f6b5c5e06070f0efca96227a863e")
	far := unhex(t, "01000000000000000400000000000000")
	blocks := unhex(t, "e33594d7505e43b900000000000000003394d7505e4379cd01000000000000000000000000000000000000000000000001000000000000000000000000000000")
	for i, c := range []struct{ key, text, want string }{
		{noughts + noughts, strings.Repeat("\x00", 64), "00000000000000000000000000000000"},
		{noughts + half, terms, "36e5f6b5c5e06070f0efca96227a863e"},
		{half + noughts, terms, "f3477e7cd95417af89a6b8794c310cf0"},
		{unhex(t, "1c9240a5eb55d38af333888604f6b5f0473917c1402b80099dca5cbc207075c0"), poem, "4541669a7eaaee61e708dc7cbcc5eb62"},
		{two + noughts, most, "03000000000000000000000000000000"},
		{two + most, two, "03000000000000000000000000000000"},
		{one + noughts, most + "\xf0" + most[1:] + "\x11" + noughts[1:], "05000000000000000000000000000000"},
		{one + noughts, most + "\xfb" + strings.Repeat("\xfe", 15) + strings.Repeat("\x01", 16), "00000000000000000000000000000000"},
		{two + noughts, "\xfd" + most[1:], "faffffffffffffffffffffffffffffff"},
		{far + noughts, blocks, "14000000000000005500000000000000"},
		{far + noughts, blocks[:48], "13000000000000000000000000000000"},
	} {
		if got := macOf(t, c.key, c.text); got != unhex(t, c.want) {
			t.Errorf("the tag %d: %x, not %s", i+1, got, c.want)
		}
	}
}

func TestMacOfKnownTextsOfEdgeLengths(t *testing.T) {
	full := func(n int) string { return strings.Repeat("\xff", n) }
	empty := func(n int) string { return strings.Repeat("\x00", n) }
	for _, c := range []struct {
		key  string
		text func(int) string
		n    int
		want string
	}{
		{unhex(t, rfcKey), knownText, 0, "0103808afb0db2fd4abff6af4149f51b"},
		{unhex(t, rfcKey), knownText, 1, "0b8856490462076b4e3b3b025089ca22"},
		{unhex(t, rfcKey), knownText, 15, "71fa67f642a011128b7d32bf5632329c"},
		{unhex(t, rfcKey), knownText, 16, "886fc7ad40d01710ed195f5831354eb2"},
		{unhex(t, rfcKey), knownText, 17, "d3a17a62fc12900fd2f70f4fb8462425"},
		{unhex(t, rfcKey), knownText, 31, "8839c3cf2434f21176e5d3ce26a12501"},
		{unhex(t, rfcKey), knownText, 32, "f20beb7bcc2ed8e14b7fd56fa060a54b"},
		{unhex(t, rfcKey), knownText, 33, "505152abe57202d3cb2731931c1211e5"},
		{unhex(t, rfcKey), knownText, 65535, "9a9c00ffcbba57565d414407702b4135"},
		{unhex(t, rfcKey), knownText, 65536, "fa517b231e82c2eb10cf701ab1f3f79b"},
		{most + most, full, 0, "ffffffffffffffffffffffffffffffff"},
		{most + most, full, 1, "23feffef23f8ffef23f8ffef23f8ffef"},
		{most + most, full, 15, "fbff27e6030028e6030028e6030028ee"},
		{most + most, full, 16, "fbffff17faffff17faffff17faffff17"},
		{most + most, full, 17, "7cfe7ff768f81f2763f8bf565df85f86"},
		{most + most, full, 31, "5400a8ed4800481d4300e84c3d008884"},
		{most + most, full, 32, "5400801f3f00204f3900c07e330060ae"},
		{most + most, full, 33, "86fa6a437bf4ec24a274504dc37495bc"},
		{most + most, full, 65535, "f2ad2fbbd29f1ed87c3291d6195890d0"},
		{most + most, full, 65536, "f2ad07edc89ff60973326908105868fa"},
		{most + most, empty, 1, "0effffff0ffcffff0ffcffff0ffcffff"},
		{most + most, empty, 15, "faff13fbffff13fbffff13fbffff13ff"},
		{most + most, empty, 16, "faffff13fbffff13fbffff13fbffff13"},
		{most + most, empty, 17, "59ff3f8649fcefad44fc9fd53ffc4ffd"},
		{most + most, empty, 33, "0c7c2e700379c5d623b96d783f392755"},
		{most + most, empty, 65536, "f510317027854d880aaa575c0df456fb"},
	} {
		if got := macOf(t, c.key, c.text(c.n)); got != unhex(t, c.want) {
			t.Errorf("%d bytes under %x: %x, not %s", c.n, c.key, got, c.want)
		}
	}
}

func TestMacsOfAllLengthsBesideGreatNumbers(t *testing.T) {
	for n := range 300 {
		key, s := drawn(n + 32)[n:], drawn(n)
		if got := macOf(t, key, s); got != otherMac(key, s) {
			t.Errorf("%d bytes under %x: %x", n, key, got)
		}
	}
	for _, n := range edgeLengths {
		for _, key := range []string{drawn(32), most + most, most + noughts, noughts + most, one + most, unhex(t, rfcKey)} {
			for _, s := range []string{drawn(n), strings.Repeat("\xff", n), strings.Repeat("\x00", n)} {
				if got := macOf(t, key, s); got != otherMac(key, s) {
					t.Errorf("%d bytes under %x: %x", n, key, got)
				}
			}
		}
	}
}

func TestMacsOfBytesOfFewKindsBesideGreatNumbers(t *testing.T) {
	draw := rand.New(rand.NewSource(6))
	kinds := []byte{0, 0, 1, 0x0f, 0xfb, 0xfc, 0xfe, 0xff, 0xff, 0xff}
	fill := func(n int) string {
		b := make([]byte, n)
		for i := range b {
			b[i] = kinds[draw.Intn(len(kinds))]
		}
		return string(b)
	}
	for range 5000 {
		key, s := fill(32), fill(draw.Intn(100))
		if got := macOf(t, key, s); got != otherMac(key, s) {
			t.Errorf("%x under %x: %x", s, key, got)
		}
	}
}

// blocksOf are k whole blocks whose numbers, each of them 2^128 and that of its bytes, are n together.
func blocksOf(t *testing.T, n *big.Int, k int) string {
	t.Helper()
	left := new(big.Int).Sub(n, new(big.Int).Mul(big.NewInt(int64(k)), power(128)))
	s := ""
	for range k {
		part := numberOf(most)
		if left.Cmp(part) < 0 {
			part.Set(left)
		}
		s += bytesOf(part)
		left.Sub(left, part)
	}
	if left.Sign() != 0 {
		t.Fatalf("%x are not %d blocks", n, k)
	}
	return s
}

// beside is a number and a small one.
func beside(n *big.Int, d int64) *big.Int { return new(big.Int).Add(n, big.NewInt(d)) }

func TestMacOfNumbersAboutTheModulus(t *testing.T) {
	far := new(big.Int).Add(modulus(), power(128))
	for _, c := range []struct {
		number *big.Int
		blocks int
		want   string
	}{
		{beside(modulus(), -1), 3, "faffffffffffffffffffffffffffffff"},
		{modulus(), 3, "00000000000000000000000000000000"},
		{beside(modulus(), 1), 3, "01000000000000000000000000000000"},
		{beside(power(130), -1), 3, "04000000000000000000000000000000"},
		{power(130), 3, "05000000000000000000000000000000"},
		{power(130), 4, "05000000000000000000000000000000"},
		{beside(power(130), 1), 4, "06000000000000000000000000000000"},
		// 2^128 itself, and as what is left of the modulus and 2^128: there one less, too.
		{power(128), 1, "00000000000000000000000000000000"},
		{beside(power(128), 1), 1, "01000000000000000000000000000000"},
		{beside(far, -1), 4, "ffffffffffffffffffffffffffffffff"},
		{far, 4, "00000000000000000000000000000000"},
		{beside(far, 1), 4, "01000000000000000000000000000000"},
		{beside(power(129), -1), 1, "ffffffffffffffffffffffffffffffff"},
		{power(129), 2, "00000000000000000000000000000000"},
		{beside(power(129), 1), 2, "01000000000000000000000000000000"},
		// Twice the modulus.
		{beside(power(131), -11), 7, "faffffffffffffffffffffffffffffff"},
		{beside(power(131), -10), 7, "00000000000000000000000000000000"},
		{beside(power(131), -9), 7, "01000000000000000000000000000000"},
	} {
		// The order of the blocks is nothing to the sum, but to what it is on its way.
		text := blocksOf(t, c.number, c.blocks)
		turned := ""
		for i := range c.blocks {
			turned = text[16*i:16*i+16] + turned
		}
		for _, s := range []string{text, turned} {
			if got := macOf(t, one+noughts, s); got != unhex(t, c.want) {
				t.Errorf("%x, as the blocks %x: %x, not %s", c.number, s, got, c.want)
			}
		}
	}
}

// About each edge, and under any first half: a block that brings the number there, and others behind it.
func TestMacOfNumbersAboutEdgesUnderDrawnKeys(t *testing.T) {
	draw := rand.New(rand.NewSource(7))
	edges := []*big.Int{modulus(), power(128), power(129), new(big.Int).Add(power(128), power(129)), power(32), power(64), power(96)}
	met := 0
	for met < 3000 {
		half := make([]byte, 16)
		draw.Read(half)
		r := otherClamp(string(half))
		edge := beside(edges[draw.Intn(len(edges))], int64(draw.Intn(15)-7))
		n := new(big.Int).ModInverse(r, modulus())
		n.Mul(n, edge).Mod(n, modulus())
		if n.Cmp(power(128)) < 0 || n.Cmp(power(129)) >= 0 {
			continue
		}
		met++
		text := blocksOf(t, n, 1)
		want := bytesOf(new(big.Int).Mod(edge, modulus()))
		if got := macOf(t, string(half)+noughts, text); got != want {
			t.Errorf("%x under %x: %x, not %x", text, half, got, want)
		}
		for _, more := range []string{"a", noughts, most, most + most, drawn(40)} {
			if got := macOf(t, string(half)+most, text+more); got != otherMac(string(half)+most, text+more) {
				t.Errorf("%x under %x: %x", text+more, half, got)
			}
		}
	}
}

func TestMacCarriesTheSecondHalfBeyond128Bits(t *testing.T) {
	for _, c := range []struct{ half, text, want string }{
		// The number's lowest 128 bits are all set, or 2^127, or one less than 2^128 with the half.
		{most, most, "feffffffffffffffffffffffffffffff"},
		{one, most, "00000000000000000000000000000000"},
		{two, most, "01000000000000000000000000000000"},
		{noughts, most, "ffffffffffffffffffffffffffffffff"},
		{most, one, "00000000000000000000000000000000"},
		{most, noughts, "ffffffffffffffffffffffffffffffff"},
		{most, two, "01000000000000000000000000000000"},
		{noughts[1:] + "\x80", noughts[1:] + "\x80", "00000000000000000000000000000000"},
		{noughts[1:] + "\x80", most[1:] + "\x7f", "ffffffffffffffffffffffffffffffff"},
		{"\x00\x00\x00\x00" + most[4:], "\x00\x00\x00\x00\x01" + noughts[5:], "00000000000000000000000000000000"},
		{"\xff\xff\xff\xff" + noughts[4:], one, "00000000010000000000000000000000"},
		{"\xff\xff\xff\xff\xff\xff\xff\xff" + noughts[8:], one, "00000000000000000100000000000000"},
		{most[:12] + noughts[12:], one, "00000000000000000000000001000000"},
	} {
		if got := macOf(t, one+c.half, c.text); got != unhex(t, c.want) {
			t.Errorf("%x under the half %x: %x, not %s", c.text, c.half, got, c.want)
		}
	}
}

func TestMacOfWholeAndOfBrokenBlocks(t *testing.T) {
	// The byte 1 stands behind the last bytes, not behind noughts: no two of these are one text's.
	seen := map[string]int{}
	for n := range 100 {
		tag := macOf(t, unhex(t, rfcKey), strings.Repeat("\x00", n))
		if m, ok := seen[tag]; ok {
			t.Errorf("%d noughts have the tag of %d", n, m)
		}
		seen[tag] = n
	}
	for n := range 16 {
		s := drawn(16)[:n]
		if macOf(t, unhex(t, rfcKey), s) == macOf(t, unhex(t, rfcKey), s+"\x01"+noughts[n+1:]) {
			t.Errorf("%d bytes have the tag of the whole block", n)
		}
	}
	// Of the empty text there is no block, not even one of the byte 1 alone.
	if got := macOf(t, most+most, ""); got != most {
		t.Errorf("the empty text: %x", got)
	}
}

// Py2, R1, R2: keys and texts that may not be.

func refused(t *testing.T, key, s string) {
	t.Helper()
	if tag, e := Mac(key, s); tag != "" || e != api.ErrArg {
		t.Errorf("%d bytes under a key of %d: %x, the error %d", len(s), len(key), tag, e)
	}
	for _, tag := range []string{"", noughts, most} {
		if Check(key, s, tag) {
			t.Errorf("%d bytes under a key of %d: the tag %x is taken", len(s), len(key), tag)
		}
	}
}

func TestMacUnderWrongKeys(t *testing.T) {
	for _, n := range []int{0, 1, 15, 16, 17, 30, 31, 33, 34, 48, 64, 65536} {
		for _, s := range []string{"", "a", noughts, drawn(65536), drawn(65537)} {
			refused(t, drawn(n), s)
			refused(t, strings.Repeat("\x00", n), s)
		}
	}
}

func TestMacOfTooLongTexts(t *testing.T) {
	for _, n := range []int{65537, 65538, 65552, 1 << 17, 1 << 20} {
		refused(t, unhex(t, rfcKey), strings.Repeat("a", n))
		refused(t, noughts+noughts, strings.Repeat("a", n))
	}
}

// Py2: Check.

func TestCheckOfTheTagAndOfOthers(t *testing.T) {
	for _, n := range []int{0, 1, 15, 16, 17, 34, 65536} {
		key, s := drawn(32), drawn(n)
		tag := otherMac(key, s)
		if !Check(key, s, tag) {
			t.Errorf("%d bytes: the tag is not taken", n)
		}
		for i := range 128 {
			b := []byte(tag)
			b[i/8] ^= 1 << (i % 8)
			if n < 100 && Check(key, s, string(b)) {
				t.Errorf("%d bytes: the tag with the bit %d turned is taken", n, i)
			}
		}
		for _, other := range []string{"", tag[:1], tag[:8], tag[:15], tag[1:], tag + "\x00", "\x00" + tag, tag + tag[15:], tag + tag,
			tag[8:] + tag[:8], noughts, most, hex.EncodeToString([]byte(tag)), s} {
			if Check(key, s, other) {
				t.Errorf("%d bytes: %d bytes that are not the tag are taken", n, len(other))
			}
		}
	}
}

func TestCheckOfATagOfAnotherByte(t *testing.T) {
	key, s := unhex(t, rfcKey), "Cryptographic Forum Research Group"
	tag := macOf(t, key, s)
	for i := range len(tag) {
		for d := 1; d < 256; d++ {
			b := []byte(tag)
			b[i] += byte(d)
			if Check(key, s, string(b)) {
				t.Errorf("the byte %d is %d and not %d, and it is taken", i, b[i], tag[i])
			}
		}
	}
}

func TestCheckOfATagOfAnotherTextOrKey(t *testing.T) {
	key, s := unhex(t, rfcKey), "Cryptographic Forum Research Group"
	tag := macOf(t, key, s)
	for i := range len(s) {
		b := []byte(s)
		b[i] ^= 1
		if Check(key, string(b), tag) {
			t.Errorf("the text with the byte %d turned is taken", i)
		}
	}
	for _, other := range []string{"", s[:33], s[1:], s + "\x00", s + "\x01", "\x00" + s, s + s, s[16:32] + s[:16] + s[32:]} {
		if Check(key, other, tag) {
			t.Errorf("%q is taken", other)
		}
	}
	// A bit of the first half counts where Clamp keeps it, one of the second half always.
	for i := range 256 {
		b := []byte(key)
		b[i/8] ^= 1 << (i % 8)
		lost := i < 128 && otherClamp(string(b[:16])).Cmp(otherClamp(key[:16])) == 0
		if Check(string(b), s, tag) != lost {
			t.Errorf("the key with the bit %d turned: %v", i, !lost)
		}
	}
}

// Py3.

func TestAFirstHalfOfNoughtsGivesTheSecondHalf(t *testing.T) {
	lost := unhex(t, "000000f0030000f0030000f0030000f0")
	for _, n := range edgeLengths {
		for _, half := range []string{noughts, most, one, drawn(16), unhex(t, rfcKey)[16:]} {
			for _, s := range []string{drawn(n), strings.Repeat("\xff", n), strings.Repeat("\x00", n)} {
				if tag := macOf(t, noughts+half, s); tag != half || !Check(noughts+half, s, half) {
					t.Errorf("%d bytes: %x, not %x", n, tag, half)
				}
				// What is clamped to noughts counts as noughts.
				if tag := macOf(t, lost+half, s); tag != half {
					t.Errorf("%d bytes, noughts when clamped: %x, not %x", n, tag, half)
				}
			}
		}
	}
}

func TestTheSecondHalfIsAddedAlone(t *testing.T) {
	for i := range 300 {
		key, s := drawn(32 + i)[i:], drawn(i)
		bare := numberOf(macOf(t, key[:16]+noughts, s))
		for _, half := range []string{key[16:], noughts, most, one, noughts[1:] + "\x80"} {
			want := bytesOf(new(big.Int).Add(bare, numberOf(half)))
			if got := macOf(t, key[:16]+half, s); got != want {
				t.Errorf("%d bytes under %x and %x: %x, not %x", i, key[:16], half, got, want)
			}
		}
	}
}

// R3, R4: the same arguments, the same answers, whatever was called between, and however the texts lie in memory.

func TestAnswersHangOnArgumentsAlone(t *testing.T) {
	tell := func() []string {
		var l []string
		for n := range 130 {
			s := drawn(200)
			half, _ := Clamp(s[n : n+16])
			tag, _ := Mac(s[n:n+32], s[:n])
			again, _ := Mac(drawn(200)[n:n+32], drawn(200)[:n])
			if tag != again {
				t.Errorf("%d bytes: %x and %x", n, tag, again)
			}
			l = append(l, half, tag)
		}
		return l
	}
	first := tell()
	Clamp(most)
	Clamp("")
	Mac("", "")
	Mac(most+most, drawn(65536))
	Check(most+most, "text", most)
	if !slices.Equal(first, tell()) {
		t.Error("the second time it was otherwise")
	}
}
