package vault

import (
	"encoding/binary"
	"encoding/hex"
	"math"
	"math/rand"
	"slices"
	"strings"
	"sync"
	"testing"

	"samphire/aead"
	"samphire/api"
	"samphire/hkdf"
)

const (
	key   = "0123456789abcdef0123456789abcdef"
	nonce = "twelve bytes"
	most  = 1 << 15
)

// sizes are those of texts about the edges of parts, and of a few more.
var sizes = []int{0, 1, 14, 15, 16, 17, 18, 31, 32, 33, 46, 47, 48, 49, 50, 79, 80, 81, 300, 304, 305, 500}

// Lengths of texts that are no keys, and no nonces: of some the lowest bits alone would do.
var (
	noKeys   = []int{0, 1, 12, 16, 31, 33, 48, 64, 32 + 1<<8, 32 + 1<<16}
	noNonces = []int{0, 1, 8, 11, 13, 16, 24, 32, 12 + 1<<8, 12 + 1<<16}
)

// text is a text of n bytes, the same one in each run.
func text(n int) string { return drawn(rand.New(rand.NewSource(int64(n))), n) }

// drawn is a text of n bytes that a test draws.
func drawn(draw *rand.Rand, n int) string {
	b := make([]byte, n)
	draw.Read(b)
	return string(b)
}

func unhex(t *testing.T, s string) string {
	t.Helper()
	b, err := hex.DecodeString(s)
	if err != nil {
		t.Fatal(err)
	}
	return string(b)
}

// partOf is what Derive itself tells of a part.
func partOf(t *testing.T, seed string, number int) string {
	t.Helper()
	purpose := binary.BigEndian.AppendUint64(nil, uint64(number))
	p, e := hkdf.Derive("vault", seed, string(purpose), 32)
	if e != api.OK || len(p) != 32 {
		t.Fatalf("Derive: %d bytes %d", len(p), e)
	}
	return p
}

// hand draws by hand: parts of a seed, each one once.
type hand struct {
	seed   string
	number int
}

func (h *hand) draw(t *testing.T, n int) string {
	t.Helper()
	s := ""
	for len(s) < n {
		s += partOf(t, h.seed, h.number)
		h.number++
	}
	return s[:n]
}

// four are the arguments of a seal.
type four struct{ key, nonce, bound, text string }

// wrong are arguments that layer 7 refuses, each wrong in turn, and then all at once.
func wrong() []four {
	var l []four
	for _, n := range noKeys {
		l = append(l, four{text(n), nonce, "bound", "text"})
	}
	for _, n := range noNonces {
		l = append(l, four{key, text(n), "bound", "text"})
	}
	for _, n := range []int{0, 1, 100, most / 2, most - 1, most, most + 1} {
		l = append(l, four{key, nonce, text(n), text(most + 1 - n)})
	}
	return append(l,
		four{key, nonce, text(most), text(most)},
		four{key, nonce, text(1 << 16), ""},
		four{key, nonce, "", text(1 << 16)},
		four{nonce, key, "bound", "text"},
		four{key[1:], nonce[1:], text(most), text(most)},
		four{})
}

// is holds that a call answered just this.
func is(t *testing.T, got string, e api.Errno, want string) {
	t.Helper()
	if got != want || e != api.OK {
		t.Errorf("%d bytes %x and the error %d, not %d bytes %x", len(got), got[:min(len(got), 80)], e, len(want), want[:min(len(want), 80)])
	}
}

// refused holds that a call answered an error, and no text.
func refused(t *testing.T, got string, e, want api.Errno) {
	t.Helper()
	if got != "" || e != want {
		t.Errorf("%d bytes and the error %d, not the error %d", len(got), e, want)
	}
}

// isSeal holds that a text is sealed to just these bytes.
func isSeal(t *testing.T, s *Sealer, f four, want string) {
	t.Helper()
	got, e := s.Seal(f.key, f.nonce, f.bound, f.text)
	is(t, got, e, want)
}

func noSeal(t *testing.T, s *Sealer, f four) {
	t.Helper()
	got, e := s.Seal(f.key, f.nonce, f.bound, f.text)
	refused(t, got, e, api.ErrArg)
}

// isOpen holds that bytes are opened to the text of f.
func isOpen(t *testing.T, s *Sealer, f four, sealed string) {
	t.Helper()
	got, e := s.Open(f.key, f.nonce, f.bound, sealed)
	is(t, got, e, f.text)
}

func noOpen(t *testing.T, s *Sealer, f four, sealed string, want api.Errno) {
	t.Helper()
	got, e := s.Open(f.key, f.nonce, f.bound, sealed)
	refused(t, got, e, want)
}

// sealOf is what Seal answers where it must not refuse.
func sealOf(t *testing.T, s *Sealer, f four) string {
	t.Helper()
	sealed, e := s.Seal(f.key, f.nonce, f.bound, f.text)
	if e != api.OK || len(sealed) != len(f.text)+16 {
		t.Fatalf("Seal of %d bytes: %d bytes and the error %d", len(f.text), len(sealed), e)
	}
	return sealed
}

func isMany(t *testing.T, s *Sealer, want int) {
	t.Helper()
	if n := s.Many(); n != want {
		t.Errorf("Many: %d, not %d", n, want)
	}
}

func isDrawn(t *testing.T, s *Sealer, n int, want string) {
	t.Helper()
	if got := s.Drawn(n); got != want {
		t.Errorf("Drawn(%d): %d bytes %x, not %d bytes %x", n, len(got), got[:min(len(got), 80)], len(want), want[:min(len(want), 80)])
	}
}

// others are arguments that are f's but for one or two: what f sealed is not opened with them.
func others(f four) []four {
	turned := func(s string, i int) string {
		b := []byte(s)
		b[i] ^= 1
		return string(b)
	}
	l := []four{
		{f.key, f.nonce, f.bound + "\x00", ""},
		{f.key, f.nonce, "\x00" + f.bound, ""},
		{f.key, f.nonce, f.bound + f.bound + "a", ""},
		{turned(f.key, 3), turned(f.nonce, 3), f.bound, ""},
		{f.nonce + f.key[:20], f.key[20:], f.bound, ""},
		{strings.Repeat("\x00", 32), f.nonce, f.bound, ""},
		{f.key, strings.Repeat("\x00", 12), f.bound, ""},
	}
	for i := range f.key {
		l = append(l, four{turned(f.key, i), f.nonce, f.bound, ""})
	}
	for i := range f.nonce {
		l = append(l, four{f.key, turned(f.nonce, i), f.bound, ""})
	}
	for i := range f.bound {
		l = append(l, four{f.key, f.nonce, turned(f.bound, i), ""}, four{f.key, f.nonce, f.bound[:i], ""})
	}
	return l
}

// Vt1: Real.

func TestRealBesideLayer7(t *testing.T) {
	s := Real()
	for _, n := range sizes {
		for _, m := range []int{0, 1, 16, 300} {
			f := four{text(32), text(12), text(m), text(n)}
			want, e := aead.Seal(f.key, f.nonce, f.bound, f.text)
			if e != api.OK {
				t.Fatal(e)
			}
			isSeal(t, s, f, want)
			isSeal(t, s, f, want)
			isOpen(t, s, f, want)
			isOpen(t, Real(), f, want)
		}
	}
}

func TestRealOfAKnownSeal(t *testing.T) {
	// RFC 8439, 2.8.2.
	f := four{
		unhex(t, "808182838485868788898a8b8c8d8e8f909192939495969798999a9b9c9d9e9f"),
		unhex(t, "070000004041424344454647"),
		unhex(t, "50515253c0c1c2c3c4c5c6c7"),
		"Ladies and Gentlemen of the class of '99: If I could offer you only one tip for the future, sunscreen would be it.",
	}
	sealed := sealOf(t, Real(), f)
	if !strings.HasPrefix(sealed, unhex(t, "d31a8d34648e60db7b86afbc53ef7ec2")) || !strings.HasSuffix(sealed, unhex(t, "1ae10b594f09e26a7e902ecbd0600691")) {
		t.Errorf("%x", sealed)
	}
	isOpen(t, Real(), f, sealed)
}

func TestRealRefusesWhatLayer7Refuses(t *testing.T) {
	s := Real()
	for _, f := range wrong() {
		if _, e := aead.Seal(f.key, f.nonce, f.bound, f.text); e != api.ErrArg {
			t.Fatal(e)
		}
		noSeal(t, s, f)
		noOpen(t, s, f, f.text+text(16), api.ErrArg)
	}
	for _, n := range []int{0, 1, most / 2, most} {
		f := four{key, nonce, text(n), text(most - n)}
		isOpen(t, s, f, sealOf(t, s, f))
	}
}

func TestRealOpenOfWhatWasNotSealedSo(t *testing.T) {
	s := Real()
	f := four{key, nonce, "bound", "text"}
	sealed := sealOf(t, s, f)
	for _, o := range others(f) {
		noOpen(t, s, o, sealed, api.ErrSeal)
	}
	for n := range sealed {
		noOpen(t, s, f, sealed[:n], api.ErrSeal)
	}
	noOpen(t, s, f, "", api.ErrSeal)
	noOpen(t, s, f, text(20), api.ErrSeal)
	noOpen(t, s, f, sealed+"\x00", api.ErrSeal)
	isOpen(t, s, f, sealed)
}

// Vt1: Ideal's Seal.

func TestExample(t *testing.T) {
	s, again := Ideal("seed"), Ideal("seed")
	sealed := sealOf(t, s, four{key, nonce, "", "text"})
	if len(sealed) != 20 || sealed != partOf(t, "seed", 0)[:20] {
		t.Errorf("%x", sealed)
	}
	isDrawn(t, again, 20, sealed)
}

func TestIdealOfKnownSeeds(t *testing.T) {
	all := make([]byte, 256)
	for i := range all {
		all[i] = byte(i)
	}
	for _, c := range []struct {
		seed  string
		parts [5]string
	}{
		{"", [5]string{
			"a24f33ac6eb86502116b6f9d66b44a8086d7ce7a7c43ed77089ef0af58d53dc1", "1b63828fdb00a9e783ffcd96b81f1154dfff3da3aba29c9ac5b7933690c816ad",
			"03c740cb1ab256e70fa8454ec65c827c8fee0f89ede3f4508f2da83be0a5a036", "73713d53a278170a0312f7c0b509e2c7ca958d1e8a8084521f2cd651b0777c07",
			"b74ca32b68bf22d218dd0b4f1561da58294d87a48ce22c22e49175b1a063128e"}},
		{"x", [5]string{
			"649c44172b540ed9aea805c4073519bb365458b36319240704f9bbc3347860ac", "5927bda30d66e88a9c8e7b00f180b1c2fe001f048aa11d43a16607aa555294a4",
			"ef9e28f5f921bfab68dce36f4b8e9997f4a4b68a92e6290897782e52c39e4eb7", "cdaad2ccd6c4d97a9dc702a88976b5256a3065da973ebeda7e8551e13713873d",
			"800d1c66c5409ebe6a63bb2ffe83d95fa6a34216b667cad1d89aa5e7b0f20e5b"}},
		{"sim", [5]string{
			"fdaa9426b599fd5f0d15b2989e610a536389b059e1de50363c39f632950fdb38", "e40a1638e120b396c1f0a35e5a2babcaf77c8a75432c6d8f2503cd867dd40cb5",
			"5af9127d448642e5f1b5d62ba67ed883fd6cdfebf62d6424c03b18d122fbdfb9", "1b6fdac79bd2c702e1477d9d97290ced0ae2e99d60464033e5f6cf3a484a1b4b",
			"adf18aa722bf0eac1a105d5d0a6afe2ac1d166f9491178c20e538885f411bf04"}},
		{string(all), [5]string{
			"ccdde4637ac01b84e028fb79dc013596ee722f72b19c8223570f303d2b7716a3", "397a96783d587061bca787e5a0671fb07043ba110d6aa1570f55d54a700ffbbd",
			"c91e5188ea8c0f2a1f8b8fee6c7f90730d9a6b2ab83642a9ad984c73b8a93821", "9d963ba5eeb054e22d9f08c22b3562c15dccb9c62ae07ee2ba9c573fddfb6eab",
			"ca8b4343ded0fd96e7cd62ddc8c00c04480d1777561a10c532cb276b5f3a0ca7"}},
	} {
		sealed := sealOf(t, Ideal(c.seed), four{key, nonce, "bound", text(257*32 - 16)})
		for i, number := range []int{0, 1, 2, 255, 256} {
			is(t, sealed[32*number:32*number+32], api.OK, unhex(t, c.parts[i]))
		}
		isDrawn(t, Ideal(c.seed), 257*32, sealed)
	}
}

func TestIdealSealPartByPart(t *testing.T) {
	for _, seed := range []string{"", "seed", "é\xff\x00", text(64), text(65), text(1000)} {
		for _, n := range sizes {
			s := Ideal(seed)
			sealed := sealOf(t, s, four{key, nonce, "bound", text(n)})
			parts := 0
			for ; 32*parts < n+16; parts++ {
				if want := partOf(t, seed, parts); sealed[32*parts:min(32*parts+32, n+16)] != want[:min(32, n+16-32*parts)] {
					t.Errorf("%d bytes, the part %d: %x", n, parts, sealed)
				}
			}
			// As many parts were drawn as were needed, and what was cut off the last one is not drawn any more.
			isDrawn(t, s, 32, partOf(t, seed, parts))
		}
	}
}

func TestIdealSealsOneBehindTheOther(t *testing.T) {
	s, h := Ideal("one"), &hand{seed: "one"}
	for i, n := range slices.Concat(sizes, sizes) {
		f := four{text(32), text(12), text(i), text(n)}
		isSeal(t, s, f, h.draw(t, n+16))
		isMany(t, s, i+1)
	}
}

func TestIdealSealRefusesWhatLayer7Refuses(t *testing.T) {
	s, h := Ideal("seed"), &hand{seed: "seed"}
	for i, f := range wrong() {
		noSeal(t, s, f)
		isMany(t, s, i)
		// Nothing was drawn.
		isDrawn(t, s, 33, h.draw(t, 33))
		isSeal(t, s, four{key, nonce, "bound", "text"}, h.draw(t, 20))
	}
}

func TestIdealSealOfTheGreatestTexts(t *testing.T) {
	s, h := Ideal("seed"), &hand{seed: "seed"}
	for _, n := range []int{most, most - 1, most - 15, most / 2, 1, 0} {
		f := four{key, nonce, text(most - n), text(n)}
		sealed := sealOf(t, s, f)
		is(t, sealed, api.OK, h.draw(t, n+16))
		isOpen(t, s, f, sealed)
		f.bound += "a"
		noSeal(t, s, f)
		noOpen(t, s, f, sealed, api.ErrArg)
	}
	isMany(t, s, 6)
}

// Vt1: Ideal's Open.

func TestIdealOpenOfAllThatWasSealed(t *testing.T) {
	s := Ideal("seed")
	var all []four
	var sealed []string
	for _, n := range sizes {
		for _, m := range []int{0, 1, 32} {
			f := four{text(32), text(12), text(m), text(n)}
			all, sealed = append(all, f), append(sealed, sealOf(t, s, f))
			// All that was sealed ahead is yet there.
			for i, f := range all {
				isOpen(t, s, f, sealed[i])
			}
		}
	}
	isMany(t, s, len(all))
}

func TestIdealOpenWithOtherArguments(t *testing.T) {
	for _, bound := range []string{"", "b", "bound"} {
		s := Ideal("seed")
		f := four{key, nonce, bound, "text"}
		sealed := sealOf(t, s, f)
		for _, o := range others(f) {
			noOpen(t, s, o, sealed, api.ErrSeal)
		}
		isOpen(t, s, f, sealed)
	}
}

func TestIdealOpenOfWhatWasNeverSealed(t *testing.T) {
	s := Ideal("seed")
	f := four{key, nonce, "bound", "text"}
	noOpen(t, s, f, "", api.ErrSeal)
	sealed := sealOf(t, s, f)
	noOpen(t, s, f, "", api.ErrSeal)
	for i := range sealed {
		noOpen(t, s, f, sealed[:i], api.ErrSeal)
		noOpen(t, s, f, sealed[i+1:], api.ErrSeal)
		for _, turn := range []byte{0x01, 0x80, 0xff} {
			b := []byte(sealed)
			b[i] ^= turn
			noOpen(t, s, f, string(b), api.ErrSeal)
		}
	}
	for n := range 60 {
		noOpen(t, s, f, text(n), api.ErrSeal)
		noOpen(t, s, f, strings.Repeat("\x00", n), api.ErrSeal)
		noOpen(t, s, f, sealed+text(n+1), api.ErrSeal)
	}
	noOpen(t, s, f, "text", api.ErrSeal)
	noOpen(t, s, f, strings.ToUpper(sealed)+"A", api.ErrSeal)
	// What was drawn, but not sealed; what the real one, and another ideal one, sealed.
	noOpen(t, s, f, s.Drawn(20), api.ErrSeal)
	noOpen(t, s, f, sealOf(t, Real(), f), api.ErrSeal)
	noOpen(t, s, f, sealOf(t, Ideal("other"), f), api.ErrSeal)
	noOpen(t, Ideal("seed"), f, sealed, api.ErrSeal)
	noOpen(t, Real(), f, sealed, api.ErrSeal)
	isOpen(t, s, f, sealed)
	isMany(t, s, 1)
}

func TestIdealOpenRefusesWhatLayer7Refuses(t *testing.T) {
	s := Ideal("seed")
	f := four{key, nonce, "bound", "text"}
	sealed := sealOf(t, s, f)
	for _, n := range noKeys {
		for _, c := range []string{sealed, "", "a", text(20)} {
			noOpen(t, s, four{text(n), nonce, "bound", ""}, c, api.ErrArg)
		}
	}
	for _, n := range noNonces {
		for _, c := range []string{sealed, "", "a", text(20)} {
			noOpen(t, s, four{key, text(n), "bound", ""}, c, api.ErrArg)
		}
	}
	// What is sealed counts without its last 16 bytes, and as nothing, if it has fewer.
	for _, c := range []struct {
		bound, sealed int
		want          api.Errno
	}{
		{most, 0, api.ErrSeal}, {most, 15, api.ErrSeal}, {most, 16, api.ErrSeal}, {most, 17, api.ErrArg},
		{most + 1, 0, api.ErrArg}, {most + 1, 1, api.ErrArg}, {most + 1, 15, api.ErrArg}, {most + 1, 16, api.ErrArg},
		{0, most, api.ErrSeal}, {0, most + 16, api.ErrSeal}, {0, most + 17, api.ErrArg}, {0, 1 << 17, api.ErrArg},
		{1, most + 15, api.ErrSeal}, {1, most + 16, api.ErrArg}, {most / 2, most/2 + 16, api.ErrSeal}, {most / 2, most/2 + 17, api.ErrArg},
		{most - 1, 17, api.ErrSeal}, {most - 1, 18, api.ErrArg}, {1 << 16, 20, api.ErrArg},
	} {
		f := four{key, nonce, text(c.bound), ""}
		if _, e := aead.Open(f.key, f.nonce, f.bound, text(c.sealed)); e != c.want {
			t.Fatalf("%v: layer 7 answers the error %d", c, e)
		}
		noOpen(t, s, f, text(c.sealed), c.want)
	}
	isOpen(t, s, f, sealed)
}

func TestIdealSealsTwice(t *testing.T) {
	// Sealed with the same arguments, and with others: each time other bytes, and each is opened with its own alone.
	s := Ideal("seed")
	l := []four{
		{key, nonce, "bound", "text"}, {key, nonce, "bound", "text"}, {key, nonce, "bound", "next"}, {key, nonce, "bind", "text"},
		{key, nonce[1:] + "a", "bound", "text"}, {key[1:] + "a", nonce, "bound", "text"}, {key, nonce, "", "boundtext"}, {key, nonce, "bound", ""},
	}
	var sealed []string
	for i, f := range l {
		c := sealOf(t, s, f)
		if slices.Contains(sealed, c) {
			t.Errorf("%x was there", c)
		}
		sealed = append(sealed, c)
		isMany(t, s, i+1)
	}
	for i, f := range l {
		for j, g := range l {
			if f.key == g.key && f.nonce == g.nonce && f.bound == g.bound {
				isOpen(t, s, four{f.key, f.nonce, f.bound, g.text}, sealed[j])
			} else {
				noOpen(t, s, f, sealed[j], api.ErrSeal)
			}
		}
		isOpen(t, s, f, sealed[i])
	}
	isMany(t, s, len(l))
}

func TestTheTableHasOneTextOfTheSameBytes(t *testing.T) {
	// By itself a sealer hardly ever draws the same bytes again: it is set back.
	s := Ideal("seed")
	f, g := four{key, nonce, "bound", "text"}, four{key, nonce, "bind", "next"}
	sealed := sealOf(t, s, f)
	s.way.(*ideal).drawn = 0
	isSeal(t, s, g, sealed)
	isMany(t, s, 1)
	noOpen(t, s, f, sealed, api.ErrSeal)
	isOpen(t, s, g, sealed)
}

// Vt2: Many.

func TestMany(t *testing.T) {
	s := Ideal("seed")
	isMany(t, s, 0)
	for i := range 50 {
		f := four{key, nonce, "bound", text(i % 7)}
		sealed := sealOf(t, s, f)
		isMany(t, s, i+1)
		for _, f := range wrong() {
			s.Seal(f.key, f.nonce, f.bound, f.text)
			s.Open(f.key, f.nonce, f.bound, sealed)
		}
		s.Open(f.key, f.nonce, f.bound, sealed)
		s.Open(f.key, f.nonce, f.bound, "never sealed")
		s.Drawn(i)
		isMany(t, s, i+1)
	}
	isMany(t, Ideal("seed"), 0)
}

func TestManyOfTheRealOne(t *testing.T) {
	s := Real()
	isMany(t, s, -1)
	f := four{key, nonce, "bound", "text"}
	isOpen(t, s, f, sealOf(t, s, f))
	isMany(t, s, -1)
}

// Vt2: Drawn.

func TestDrawnOfOneNumber(t *testing.T) {
	for _, n := range []int{0, 1, 2, 31, 32, 33, 63, 64, 65, 1000, most - 1, most} {
		s, h := Ideal("seed"), &hand{seed: "seed"}
		isDrawn(t, s, n, h.draw(t, n))
		isDrawn(t, s, 32, h.draw(t, 32))
		isMany(t, s, 0)
	}
}

func TestDrawnOfNumbersThatMayNotBe(t *testing.T) {
	s, h := Ideal("seed"), &hand{seed: "seed"}
	for _, n := range []int{-1, -2, -32, -most, most + 1, most + 2, most + 32, 1 << 16, 1<<16 + 1, 1<<32 + 1, -1<<32 + 1, math.MinInt, math.MinInt + 1, math.MaxInt - 1, math.MaxInt} {
		isDrawn(t, s, n, "")
		// Nothing was drawn.
		isDrawn(t, s, 1, h.draw(t, 1))
	}
}

func TestDrawnInPartsAndAtOnce(t *testing.T) {
	whole := Ideal("seed").Drawn(most)
	s := Ideal("seed")
	for i := 0; i < most; {
		for _, n := range []int{32, 0, 64, 32, 96, -1, 320} {
			n = min(n, most-i)
			isDrawn(t, s, n, whole[i:i+max(n, 0)])
			i += max(n, 0)
		}
	}
	// In parts that are cut, what is left of each is not drawn again.
	s = Ideal("seed")
	at := 0
	for _, n := range []int{1, 31, 32, 33, 0, 0, 5, 65, 1, 1, 1, 300, most + 1, 2} {
		if n > most {
			n = 0
			isDrawn(t, s, most+1, "")
		}
		isDrawn(t, s, n, whole[at:at+n])
		at += (n + 31) / 32 * 32
	}
}

func TestNothingIsDrawnTwice(t *testing.T) {
	s := Ideal("seed")
	seen := map[string]bool{}
	put := func(c string) {
		t.Helper()
		for ; len(c) >= 16; c = c[min(32, len(c)):] {
			if seen[c[:16]] {
				t.Fatalf("%x was drawn", c[:16])
			}
			seen[c[:16]] = true
		}
	}
	for i := range 300 {
		put(s.Drawn(i))
		put(sealOf(t, s, four{key, nonce, "", text(i)}))
	}
}

func TestDrawnOfTheRealOne(t *testing.T) {
	s := Real()
	for _, n := range []int{-1, 0, 1, 5, 31, 32, 33, most, most + 1, math.MinInt, math.MaxInt} {
		isDrawn(t, s, n, "")
	}
	f := four{key, nonce, "bound", "text"}
	isOpen(t, s, f, sealOf(t, s, f))
}

// Vt2 and R1: sealers that were not made.

func TestSealersThatWereNotMade(t *testing.T) {
	made, real := Ideal("seed"), Real()
	f := four{key, nonce, "bound", "text"}
	ideally, really := sealOf(t, made, f), sealOf(t, real, f)
	madeCopy, realCopy := *made, *real
	for _, s := range []*Sealer{nil, {}, new(Sealer), &madeCopy, &realCopy} {
		for range 3 {
			noSeal(t, s, f)
			noSeal(t, s, four{})
			noSeal(t, s, four{key, nonce, "", ""})
			for _, c := range []string{"", "a", ideally, really, text(20)} {
				noOpen(t, s, f, c, api.ErrArg)
				noOpen(t, s, four{key, nonce, "", ""}, c, api.ErrArg)
				noOpen(t, s, four{}, c, api.ErrArg)
			}
			isMany(t, s, -1)
			for _, n := range []int{-1, 0, 1, 32, most, most + 1, math.MinInt, math.MaxInt} {
				isDrawn(t, s, n, "")
			}
		}
	}
	// A copy has changed nothing of what it was copied of.
	isMany(t, made, 1)
	isDrawn(t, made, 32, partOf(t, "seed", 1))
	isOpen(t, made, f, ideally)
	isOpen(t, real, f, really)
}

// Vt3.

func TestSeedsTellWhatIsDrawn(t *testing.T) {
	seeds := []string{"", "\x00", "\x00\x00", "a", "b", "A", "ab", "ba", "vault", "seed", "seed ", "é", "\xff", text(32), text(63), text(64), text(65), text(1000), text(1001)}
	seen := map[string]string{}
	for _, seed := range seeds {
		// A seed of fewer than 64 bytes is no key of a sum here: noughts behind it tell.
		a, b := Ideal(seed), Ideal(strings.Clone(seed))
		for i := range 20 {
			c := a.Drawn(16 + i)
			isDrawn(t, b, 16+i, c)
			if was, ok := seen[c[:16]]; ok {
				t.Errorf("of %q as of %q", seed, was)
			}
			seen[c[:16]] = seed
		}
	}
}

func TestAnIdealSealTellsNothingButTheLength(t *testing.T) {
	draw := rand.New(rand.NewSource(161))
	for range 50 {
		seed := drawn(draw, draw.Intn(40))
		a, b := Ideal(seed), Ideal(seed)
		for range 20 {
			n := draw.Intn(200)
			f := four{drawn(draw, 32), drawn(draw, 12), drawn(draw, draw.Intn(100)), drawn(draw, n)}
			g := four{drawn(draw, 32), drawn(draw, 12), drawn(draw, draw.Intn(100)), strings.Repeat("a", n)}
			c := sealOf(t, a, f)
			isSeal(t, b, g, c)
			isOpen(t, a, f, c)
			isOpen(t, b, g, c)
			noOpen(t, a, g, c, api.ErrSeal)
			noOpen(t, b, f, c, api.ErrSeal)
			noSeal(t, a, four{f.key, "", f.bound, f.text})
		}
	}
}

func TestDrawnCallsBesideATableByHand(t *testing.T) {
	draw := rand.New(rand.NewSource(162))
	for range 20 {
		seed := drawn(draw, draw.Intn(100))
		s, real, h := Ideal(seed), Real(), &hand{seed: seed}
		var done []four
		var ideally, really []string
		for range 150 {
			f := four{text(32), text(12), text(draw.Intn(3)), drawn(draw, draw.Intn(70))}
			if draw.Intn(3) == 0 {
				f.key = drawn(draw, 32)
			}
			switch draw.Intn(5) {
			case 0, 1:
				isSeal(t, s, f, h.draw(t, len(f.text)+16))
				done, ideally = append(done, f), append(ideally, h.last(t, len(f.text)+16))
				really = append(really, sealOf(t, real, f))
			case 2:
				n := draw.Intn(100)
				isDrawn(t, s, n, h.draw(t, n))
			case 3:
				w := wrong()
				noSeal(t, s, w[draw.Intn(len(w))])
				noSeal(t, real, w[draw.Intn(len(w))])
			case 4:
				opened(t, s, real, f, done, ideally, really)
			}
			isMany(t, s, len(done))
		}
		for i, f := range done {
			isOpen(t, s, f, ideally[i])
			isOpen(t, real, f, really[i])
		}
	}
}

// last are the n bytes that were drawn last.
func (h *hand) last(t *testing.T, n int) string {
	t.Helper()
	again := &hand{seed: h.seed, number: h.number - (n+31)/32}
	return again.draw(t, n)
}

// opened holds that all that was done is opened with f's arguments just where it was sealed with them, both ways.
func opened(t *testing.T, s, real *Sealer, f four, done []four, ideally, really []string) {
	t.Helper()
	for i, was := range done {
		if was.key == f.key && was.nonce == f.nonce && was.bound == f.bound {
			isOpen(t, s, was, ideally[i])
			isOpen(t, real, was, really[i])
			continue
		}
		noOpen(t, s, f, ideally[i], api.ErrSeal)
		noOpen(t, real, f, really[i], api.ErrSeal)
	}
}

// R3 and R4.

func TestPiecesOfALongerText(t *testing.T) {
	long := key + nonce + "bound" + "text" + "more"
	was := strings.Clone(long)
	f := four{long[:32], long[32:44], long[44:49], long[49:53]}
	for _, s := range []*Sealer{Real(), Ideal(long[:4])} {
		sealed := sealOf(t, s, f)
		isOpen(t, s, four{key, nonce, "bound", "text"}, (sealed + "more")[:20])
	}
	isDrawn(t, Ideal(long[:4]), 40, Ideal("0123").Drawn(40))
	if long != was {
		t.Error("changed")
	}
}

func TestBytesThatAreChangedAfterwards(t *testing.T) {
	// What a sealer has of a text is the text as it was then.
	s, b := Ideal("seed"), []byte("text")
	sealed := sealOf(t, s, four{key, nonce, "bound", string(b)})
	b[0] = 'n'
	isOpen(t, s, four{key, nonce, "bound", "text"}, sealed)
}

func TestSealersDoNotHangOnOneAnother(t *testing.T) {
	f := four{key, nonce, "bound", "text"}
	really := sealOf(t, Real(), f)
	run := func(seed string, between func()) {
		s, h := Ideal(seed), &hand{seed: seed}
		for i := range 20 {
			f := four{key, nonce, "bound", text(i)}
			c := h.draw(t, i+16)
			isSeal(t, s, f, c)
			between()
			isOpen(t, s, f, c)
			isDrawn(t, s, i, h.draw(t, i))
			isMany(t, s, i+1)
		}
	}
	other, real := Ideal("seed"), Real()
	run("seed", func() {
		other.Seal(key, nonce, "bound", "other")
		other.Drawn(7)
		isSeal(t, real, f, really)
		isOpen(t, real, f, really)
		Ideal("seed").Seal(key, nonce, "", "")
		run("inner", func() {})
	})
	isMany(t, other, 20)
	var wait sync.WaitGroup
	for range 8 {
		wait.Go(func() { run("seed", func() {}) })
	}
	wait.Wait()
}
