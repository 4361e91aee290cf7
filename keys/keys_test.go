package keys

import (
	"encoding/hex"
	"math"
	"math/rand"
	"slices"
	"strings"
	"sync"
	"testing"

	"samphire/aead"
	"samphire/api"
	"samphire/hkdf"
)

const last = 1<<40 - 1

// Lengths of texts that are no keys; numbers that are no member's, and no epoch's: of some the lowest bits alone would do.
var (
	noKeys    = []int{0, 1, 16, 31, 33, 48, 64, 32 + 1<<8, 32 + 1<<16}
	noMembers = []int{0, 7, -1, -6, -255, 1 << 8, 1<<8 + 1, 1<<16 + 6, 1<<32 + 1, 1<<48 + 3, math.MinInt, math.MinInt + 1, math.MaxInt - 1, math.MaxInt}
	noEpochs  = []int{0, -1, -2, -last, -last - 1, last + 1, last + 2, 1<<48 + 1, 1<<56 + 1, math.MinInt, math.MinInt + 1, math.MaxInt - 1, math.MaxInt}
	epochs    = []int{1, 2, 9, 255, 256, 258, 1<<16 - 1, 1 << 16, 1 << 31, 1 << 32, 1 << 39, last - 1, last}
)

// drawn is a text of n drawn bytes.
func drawn(draw *rand.Rand, n int) string {
	b := make([]byte, n)
	draw.Read(b)
	return string(b)
}

// text is a text of n bytes, the same one in each run.
func text(n int) string { return drawn(rand.New(rand.NewSource(int64(n))), n) }

// rising are n bytes, each one more than the one ahead of it.
func rising(n int) string {
	b := make([]byte, n)
	for i := range b {
		b[i] = byte(i)
	}
	return string(b)
}

func unhex(t *testing.T, s string) string {
	t.Helper()
	b, err := hex.DecodeString(s)
	if err != nil {
		t.Fatal(err)
	}
	return string(b)
}

// sixBytes are a number's bytes, told by how often each place's worth goes into it.
func sixBytes(n int) string {
	b := make([]byte, 6)
	for i := range slices.Backward(b) {
		b[i] = byte(n % 256)
		n /= 256
	}
	return string(b)
}

// otherNonce is a nonce, laid into bytes that are noughts.
func otherNonce(who, count int) string {
	b := make([]byte, 12)
	b[0] = byte(who)
	copy(b[6:], sixBytes(count))
	return string(b)
}

// expanded is what Expand itself tells.
func expanded(t *testing.T, key, purpose string) string {
	t.Helper()
	s, e := hkdf.Expand(key, purpose, 32)
	if e != api.OK || len(s) != 32 {
		t.Fatalf("Expand: %d bytes %d", len(s), e)
	}
	return s
}

// sealed is what Seal itself tells of a text, as it would be wrapped.
func sealed(t *testing.T, own string, who, epoch int, s string) string {
	t.Helper()
	c, e := aead.Seal(expanded(t, own, "wrap"), otherNonce(who, epoch), "wrap", s)
	if e != api.OK || len(c) != len(s)+16 {
		t.Fatalf("Seal of %d bytes: %d bytes %d", len(s), len(c), e)
	}
	return c
}

// is holds that a call answered just this.
func is(t *testing.T, got string, e api.Errno, want string) {
	t.Helper()
	if got != want || e != api.OK {
		t.Errorf("%x %d, not %x", got, e, want)
	}
}

// refused holds that a call answered an error, and no text.
func refused(t *testing.T, got string, e, want api.Errno) {
	t.Helper()
	if got != "" || e != want {
		t.Errorf("%x %d, not the error %d", got, e, want)
	}
}

// isSend, isKeep, isFresh, isNonce and isWrap hold that a call answers this; noSend and the others that it refuses.

func isSend(t *testing.T, epoch string, who int, want string) {
	t.Helper()
	got, e := Send(epoch, who)
	is(t, got, e, want)
}

func noSend(t *testing.T, epoch string, who int) {
	t.Helper()
	got, e := Send(epoch, who)
	refused(t, got, e, api.ErrArg)
}

func isKeep(t *testing.T, epoch, want string) {
	t.Helper()
	got, e := Keep(epoch)
	is(t, got, e, want)
}

func noKeep(t *testing.T, epoch string) {
	t.Helper()
	got, e := Keep(epoch)
	refused(t, got, e, api.ErrArg)
}

func isFresh(t *testing.T, seed string, epoch int, want string) {
	t.Helper()
	got, e := Fresh(seed, epoch)
	is(t, got, e, want)
}

func noFresh(t *testing.T, seed string, epoch int) {
	t.Helper()
	got, e := Fresh(seed, epoch)
	refused(t, got, e, api.ErrArg)
}

func isNonce(t *testing.T, who, count int, want string) {
	t.Helper()
	got, e := Nonce(who, count)
	is(t, got, e, want)
}

func noNonce(t *testing.T, who, count int, want api.Errno) {
	t.Helper()
	got, e := Nonce(who, count)
	refused(t, got, e, want)
}

// isWrap holds that a key is wrapped so, and unwrapped again.
func isWrap(t *testing.T, own string, who, epoch int, key, want string) {
	t.Helper()
	got, e := Wrap(own, who, epoch, key)
	is(t, got, e, want)
	got, e = Unwrap(own, who, epoch, want)
	is(t, got, e, key)
}

func noWrap(t *testing.T, own string, who, epoch int, key string) {
	t.Helper()
	got, e := Wrap(own, who, epoch, key)
	refused(t, got, e, api.ErrArg)
}

func noUnwrap(t *testing.T, own string, who, epoch int, s string, want api.Errno) {
	t.Helper()
	got, e := Unwrap(own, who, epoch, s)
	refused(t, got, e, want)
}

// wrapped is what Wrap answers where it must not refuse.
func wrapped(t *testing.T, own string, who, epoch int, key string) string {
	t.Helper()
	s, e := Wrap(own, who, epoch, key)
	if e != api.OK || len(s) != 48 {
		t.Fatalf("Wrap for %d as of %d: %d bytes %d", who, epoch, len(s), e)
	}
	return s
}

// Ky1: Send.

func TestSendOfAKnownKey(t *testing.T) {
	for i, want := range []string{
		"22795ec92ff01564a5bed2eae62794b5da3cdc05ac554524313a3318a7936632",
		"63cca6f1540122008f4d94e80a5bc6c41c06ea324f56a80a6cef7423e1c4d6f4",
		"68c5f1e85185bb4566f4fbd7aa925e88e198b5c639d5bac033db1ce4a59ba3ff",
		"1680c35fe1849f9d31e0101dc7a5b284252abb532ef2b2cdc837cbeaff1b95a7",
		"74728fece79eb8ae2ba096a059536a45b985900e4e790b907322fde9ba7f439c",
		"46c9aba8bbc6435be6881eef288f1672685fa32a35ad818269fa59a76b99add2",
	} {
		isSend(t, rising(32), i+1, unhex(t, want))
	}
}

func TestSendBesideExpand(t *testing.T) {
	draw := rand.New(rand.NewSource(151))
	keys := []string{strings.Repeat("\x00", 32), strings.Repeat("\xff", 32), strings.Repeat("e", 32), strings.Repeat("é", 16)}
	for range 50 {
		keys = append(keys, drawn(draw, 32))
	}
	for _, key := range keys {
		for who := 1; who <= 6; who++ {
			isSend(t, key, who, expanded(t, key, "send"+string([]byte{byte(who)})))
		}
	}
}

func TestSendOfTextsThatAreNoKeys(t *testing.T) {
	for _, n := range noKeys {
		for who := 1; who <= 6; who++ {
			noSend(t, text(n), who)
		}
		for _, who := range noMembers {
			noSend(t, text(n), who)
		}
	}
	for _, s := range []string{"", strings.Repeat("e", 31), strings.Repeat("e", 33), strings.Repeat("é", 32)} {
		noSend(t, s, 1)
		noSend(t, s, 6)
	}
}

func TestSendOfNumbersThatAreNoMembers(t *testing.T) {
	for _, who := range noMembers {
		noSend(t, text(32), who)
	}
	for who := -1000; who <= 1000; who++ {
		if who < 1 || who > 6 {
			noSend(t, text(32), who)
		}
	}
}

// Ky1: Keep.

func TestKeepOfAKnownKey(t *testing.T) {
	isKeep(t, rising(32), unhex(t, "8826cb0fa1365f3f4d6b4f3d9df49c7a1a383de7f343bdfd612e42f6aee468b7"))
}

func TestKeepBesideExpand(t *testing.T) {
	draw := rand.New(rand.NewSource(152))
	for range 100 {
		key := drawn(draw, 32)
		isKeep(t, key, expanded(t, key, "keep"))
	}
	for _, c := range []string{"\x00", "\xff", "e"} {
		key := strings.Repeat(c, 32)
		isKeep(t, key, expanded(t, key, "keep"))
	}
}

func TestKeepOfTextsThatAreNoKeys(t *testing.T) {
	for n := range 200 {
		if n != 32 {
			noKeep(t, text(n))
		}
	}
	for _, n := range noKeys {
		noKeep(t, text(n))
		noKeep(t, strings.Repeat("\x00", n))
	}
}

// Ky1: Fresh.

func TestFreshOfKnownSeeds(t *testing.T) {
	for _, c := range []struct {
		seed  string
		epoch int
		want  string
	}{
		{"", 1, "fd1a94fc0ebaab5ea3d504b9661007a37571a6cd6244337fc8203abc92b686d2"},
		{"seed", 1, "637e6329517e10c99e77c78ce43b3dd5f2145996ebafcff1d89c484fc66b0168"},
		{"seed", 2, "d6b090a674dba95f37a93b08f33d2c078b8e8d829bf0bdd03e6ff3b99f970a6f"},
		{"seed", 258, "fd6688c474e7084e71fec63e5737ae36b610efa09ca5e227fd4a20a611f92f37"},
		{"seed", last, "19f2d24eafc08d5a015b1daff28c2013383f61db1834b662cde742d902ef597d"},
		{rising(64), 1, "c98234f46ee8cf278f76bcc6423ef5f8f376eecbdb46781f3574562e2c6c58bf"},
		{rising(64), last, "552054f386ccecf811d2b0d57d93ded510ef4e54d60ae6e17550e28bc8bd81e0"},
	} {
		isFresh(t, c.seed, c.epoch, unhex(t, c.want))
	}
}

func TestFreshBesideDerive(t *testing.T) {
	for n := range 65 {
		for _, epoch := range epochs {
			want, e := hkdf.Derive("samphire", text(n), "epoch"+sixBytes(epoch), 32)
			if e != api.OK || len(want) != 32 {
				t.Fatalf("Derive: %d bytes %d", len(want), e)
			}
			isFresh(t, text(n), epoch, want)
		}
	}
}

func TestFreshOfSeedsThatAreTooLong(t *testing.T) {
	for _, n := range []int{65, 66, 96, 128, 1 << 8, 1<<8 + 1, 1 << 16, 1<<16 + 1, 1<<16 + 64, 1 << 20} {
		for _, epoch := range epochs {
			noFresh(t, text(n), epoch)
		}
		for _, epoch := range noEpochs {
			noFresh(t, text(n), epoch)
		}
	}
	// Few enough runes, but of two bytes each.
	noFresh(t, strings.Repeat("é", 33), 1)
}

func TestFreshOfNumbersThatAreNoEpochs(t *testing.T) {
	for _, n := range []int{0, 1, 32, 63, 64} {
		for _, epoch := range noEpochs {
			noFresh(t, text(n), epoch)
		}
	}
	for epoch := -500; epoch <= 0; epoch++ {
		noFresh(t, "seed", epoch)
		noFresh(t, "seed", last+1-epoch)
	}
}

func TestKeysForOtherPurposesAreOthers(t *testing.T) {
	key := text(32)
	seen := map[string]bool{key: true}
	put := func(s string, e api.Errno) {
		t.Helper()
		if len(s) != 32 || e != api.OK || seen[s] {
			t.Errorf("%x %d: it was there, or is no key", s, e)
		}
		seen[s] = true
	}
	for who := 1; who <= 6; who++ {
		put(Send(key, who))
	}
	put(Keep(key))
	put(expanded(t, key, "wrap"), api.OK)
	for _, epoch := range epochs {
		put(Fresh(key, epoch))
		put(Fresh(key[:31], epoch))
	}
}

// Ky2.

func TestExample(t *testing.T) {
	isNonce(t, 2, 258, "\x02\x00\x00\x00\x00\x00\x00\x00\x00\x00\x01\x02")
}

func TestNonceByteForByte(t *testing.T) {
	for _, c := range []struct {
		who, count int
		want       string
	}{
		{0, 0, "\x00\x00\x00\x00\x00\x00\x00\x00\x00\x00\x00\x00"},
		{0, 1, "\x00\x00\x00\x00\x00\x00\x00\x00\x00\x00\x00\x01"},
		{1, 0, "\x01\x00\x00\x00\x00\x00\x00\x00\x00\x00\x00\x00"},
		{3, 255, "\x03\x00\x00\x00\x00\x00\x00\x00\x00\x00\x00\xff"},
		{3, 256, "\x03\x00\x00\x00\x00\x00\x00\x00\x00\x00\x01\x00"},
		{4, 0x0102030405, "\x04\x00\x00\x00\x00\x00\x00\x01\x02\x03\x04\x05"},
		{5, 1 << 39, "\x05\x00\x00\x00\x00\x00\x00\x80\x00\x00\x00\x00"},
		{0, last, "\x00\x00\x00\x00\x00\x00\x00\xff\xff\xff\xff\xff"},
		{6, last - 1, "\x06\x00\x00\x00\x00\x00\x00\xff\xff\xff\xff\xfe"},
		{6, last, "\x06\x00\x00\x00\x00\x00\x00\xff\xff\xff\xff\xff"},
	} {
		isNonce(t, c.who, c.count, c.want)
	}
}

func TestNonceOfEachSender(t *testing.T) {
	draw := rand.New(rand.NewSource(153))
	counts := slices.Concat([]int{0}, epochs)
	for range 500 {
		counts = append(counts, draw.Intn(1<<(1+draw.Intn(40))))
	}
	for who := range 7 {
		for _, count := range counts {
			isNonce(t, who, count, otherNonce(who, count))
		}
	}
}

func TestNonceOfCountsBelowNought(t *testing.T) {
	for who := range 7 {
		for _, count := range []int{-1, -2, -255, -256, -last, -last - 1, -1 << 48, -1<<48 + 1, math.MinInt, math.MinInt + 1} {
			noNonce(t, who, count, api.ErrArg)
		}
	}
}

func TestNonceOfCountsThatAreSpent(t *testing.T) {
	for who := range 7 {
		for _, count := range []int{last + 1, last + 2, 1 << 41, 1 << 48, 1<<48 + 1, 1<<56 + 258, math.MaxInt - 1, math.MaxInt} {
			noNonce(t, who, count, api.ErrSpent)
		}
	}
}

func TestNonceOfNumbersThatAreNoSenders(t *testing.T) {
	// Whatever count is: ErrArg comes ahead of ErrSpent.
	for _, who := range noMembers {
		if who == 0 {
			continue
		}
		for _, count := range []int{0, 1, 258, last, last + 1, last + 2, math.MaxInt, -1, math.MinInt} {
			noNonce(t, who, count, api.ErrArg)
		}
	}
	for who := 7; who <= 1000; who++ {
		noNonce(t, who, 1, api.ErrArg)
		noNonce(t, who, last+1, api.ErrArg)
		noNonce(t, 6-who, 1, api.ErrArg)
		noNonce(t, 6-who, last+1, api.ErrArg)
	}
}

// Ky3: Wrap.

func TestWrapOfAKnownKey(t *testing.T) {
	own := unhex(t, "fffefdfcfbfaf9f8f7f6f5f4f3f2f1f0efeeedecebeae9e8e7e6e5e4e3e2e1e0")
	for _, c := range []struct {
		who, epoch int
		want       string
	}{
		{1, 1, "e14199eb7442737612a5d27a8a57c8aabe7a19bc0e27a3f4c449dd44c2bb146e6390cef14c4ae3a38e2fd53ddc901562"},
		{6, 1, "d68217d1e101491b609764a7b4fa90504d25d89aebb5b4a5494711afd12e852c5ea90bd71e973300b98ae77a291839c1"},
		{4, 9, "f02985aaeea591a791ec0e49582cec825c9d524a5dbad0570c17ea5a0c04205401d8915a3f99586e920fac4d4f984fa5"},
		{2, 258, "0629ecc45d4ada679a6f98a189401e51ed1ea2a941311fd6e162a3eb76c2af928e7ca7b4251baa039bb2a5db1100f54c"},
		{6, last, "7d91378da0866a51c3ebffa9a67b6ae0ba7fea528e419a3e660afc113861cadac883d302cc1b6934f7f611a6a53ba63b"},
	} {
		isWrap(t, own, c.who, c.epoch, rising(32), unhex(t, c.want))
	}
}

func TestWrapBesideSeal(t *testing.T) {
	draw := rand.New(rand.NewSource(154))
	for who := 1; who <= 6; who++ {
		for _, epoch := range epochs {
			own, key := drawn(draw, 32), drawn(draw, 32)
			isWrap(t, own, who, epoch, key, sealed(t, own, who, epoch, key))
			// A key that is wrapped under itself.
			isWrap(t, own, who, epoch, own, sealed(t, own, who, epoch, own))
		}
	}
}

func TestWrapWithEachArgumentWrong(t *testing.T) {
	own, key := text(32), rising(32)
	for who := 1; who <= 6; who++ {
		for _, epoch := range epochs {
			for _, n := range noKeys {
				noWrap(t, text(n), who, epoch, key)
				noWrap(t, own, who, epoch, text(n))
				noWrap(t, text(n), who, epoch, text(n))
			}
		}
		for _, epoch := range noEpochs {
			noWrap(t, own, who, epoch, key)
		}
	}
	for _, who := range noMembers {
		for _, epoch := range slices.Concat(noEpochs, epochs) {
			noWrap(t, own, who, epoch, key)
			noWrap(t, text(31), who, epoch, text(33))
		}
	}
	wrapped(t, own, 1, 1, key)
}

// Ky3: Unwrap.

func TestUnwrapWithEachArgumentWrong(t *testing.T) {
	own, key := text(32), rising(32)
	for who := 1; who <= 6; who++ {
		s := wrapped(t, own, who, 9, key)
		for _, other := range []string{s, "", key, text(1 << 16)} {
			for _, n := range noKeys {
				noUnwrap(t, text(n), who, 9, other, api.ErrArg)
			}
			for _, epoch := range noEpochs {
				noUnwrap(t, own, who, epoch, other, api.ErrArg)
			}
			for _, no := range noMembers {
				noUnwrap(t, own, no, 9, other, api.ErrArg)
			}
		}
	}
	// Nonce has one for nought, but nobody is that member: also what was sealed so is refused.
	noUnwrap(t, own, 0, 9, sealed(t, own, 0, 9, key), api.ErrArg)
	noUnwrap(t, own, 1, 0, sealed(t, own, 1, 0, key), api.ErrArg)
}

func TestUnwrapOfWhatWasChanged(t *testing.T) {
	own, key := text(32), rising(32)
	for who := 1; who <= 6; who++ {
		for _, epoch := range []int{1, 258, last} {
			s := wrapped(t, own, who, epoch, key)
			for i := range len(s) {
				for _, turn := range []byte{0x01, 0x10, 0x80, 0xff} {
					b := []byte(s)
					b[i] ^= turn
					noUnwrap(t, own, who, epoch, string(b), api.ErrSeal)
				}
				noUnwrap(t, own, who, epoch, s[:i], api.ErrSeal)
				noUnwrap(t, own, who, epoch, s[i+1:], api.ErrSeal)
				noUnwrap(t, own, who, epoch, s[:i]+s[i+1:], api.ErrSeal)
			}
			for _, more := range []string{"\x00", "\x01", "\xff", "a", s} {
				noUnwrap(t, own, who, epoch, s+more, api.ErrSeal)
				noUnwrap(t, own, who, epoch, more+s, api.ErrSeal)
			}
			got, e := Unwrap(own, who, epoch, s)
			is(t, got, e, key)
		}
	}
}

func TestUnwrapByOthers(t *testing.T) {
	own, key := text(32), rising(32)
	for who := 1; who <= 6; who++ {
		for _, epoch := range epochs {
			s := wrapped(t, own, who, epoch, key)
			for other := 1; other <= 6; other++ {
				if other != who {
					noUnwrap(t, own, other, epoch, s, api.ErrSeal)
				}
			}
			for _, other := range epochs {
				if other != epoch {
					noUnwrap(t, own, who, other, s, api.ErrSeal)
				}
			}
			for i := range 32 {
				b := []byte(own)
				b[i] ^= 1
				noUnwrap(t, string(b), who, epoch, s, api.ErrSeal)
			}
			noUnwrap(t, key, who, epoch, s, api.ErrSeal)
		}
	}
}

func TestUnwrapOfTextsThatAreNoKeys(t *testing.T) {
	own := text(32)
	for n := range 130 {
		s := sealed(t, own, 4, 9, text(n))
		if n == 32 {
			got, e := Unwrap(own, 4, 9, s)
			is(t, got, e, text(n))
		} else {
			noUnwrap(t, own, 4, 9, s, api.ErrSeal)
		}
	}
	for _, n := range []int{32 + 1<<8, 1 << 14, 1<<15 - 5, 1<<15 - 4} {
		noUnwrap(t, own, 4, 9, sealed(t, own, 4, 9, text(n)), api.ErrSeal)
	}
}

func TestUnwrapOfWhatWasNotWrapped(t *testing.T) {
	own, key := text(32), rising(32)
	noUnwrap(t, own, 4, 9, "", api.ErrSeal)
	for n := range 100 {
		noUnwrap(t, own, 4, 9, text(n), api.ErrSeal)
		noUnwrap(t, own, 4, 9, strings.Repeat("\x00", n), api.ErrSeal)
	}
	// Sealed, but under another key, with another nonce, or bound to something else.
	send, e := Send(own, 4)
	if e != api.OK {
		t.Fatal(e)
	}
	for _, c := range []struct{ key, nonce, bound string }{
		{own, otherNonce(4, 9), "wrap"},
		{send, otherNonce(4, 9), "wrap"},
		{expanded(t, own, "keep"), otherNonce(4, 9), "wrap"},
		{expanded(t, own, "wrap\x04"), otherNonce(4, 9), "wrap"},
		{expanded(t, own, "wrap"), otherNonce(0, 9), "wrap"},
		{expanded(t, own, "wrap"), otherNonce(9, 4), "wrap"},
		{expanded(t, own, "wrap"), otherNonce(4, 10), "wrap"},
		{expanded(t, own, "wrap"), otherNonce(4, 9), ""},
		{expanded(t, own, "wrap"), otherNonce(4, 9), "wrap\x04"},
		{expanded(t, own, "wrap"), otherNonce(4, 9), "keep"},
	} {
		s, e := aead.Seal(c.key, c.nonce, c.bound, key)
		if e != api.OK {
			t.Fatal(e)
		}
		noUnwrap(t, own, 4, 9, s, api.ErrSeal)
	}
}

func TestUnwrapOfWhatIsTooLong(t *testing.T) {
	// What is bound to it, of four bytes, counts beside it, but its tag does not: up to there it is no seal, beyond it Open says ErrArg.
	own := text(32)
	most := 1<<15 - 4 + 16
	for _, n := range []int{most - 1, most} {
		noUnwrap(t, own, 4, 9, text(n), api.ErrSeal)
	}
	for _, n := range []int{most + 1, 1<<15 + 16, 1<<15 + 17, 1 << 16, 1<<16 + 1, 1 << 20} {
		noUnwrap(t, own, 4, 9, text(n), api.ErrArg)
	}
	for _, n := range []int{most - 1, most, most + 1, most + 2} {
		_, want := aead.Open(expanded(t, own, "wrap"), otherNonce(4, 9), "wrap", text(n))
		noUnwrap(t, own, 4, 9, text(n), want)
	}
}

// Ky4.

func TestDrawnKeysAreUnwrappedByWhoTheyAreFor(t *testing.T) {
	draw := rand.New(rand.NewSource(155))
	for range 500 {
		var own, wraps [7]string
		epoch, key := 1+draw.Intn(1<<(1+draw.Intn(39))), drawn(draw, 32)
		for who := 1; who <= 6; who++ {
			own[who] = drawn(draw, 32)
			wraps[who] = wrapped(t, own[who], who, epoch, key)
		}
		for who := 1; who <= 6; who++ {
			got, e := Unwrap(own[who], who, epoch, wraps[who])
			is(t, got, e, key)
			other := who%6 + 1
			noUnwrap(t, own[other], other, epoch, wraps[who], api.ErrSeal)
			noUnwrap(t, own[other], who, epoch, wraps[who], api.ErrSeal)
			noUnwrap(t, own[who], who, epoch+1, wraps[who], api.ErrSeal)
		}
	}
}

func TestWhatIsWrappedDoesNotShowTheKey(t *testing.T) {
	draw := rand.New(rand.NewSource(156))
	for range 200 {
		own, key := drawn(draw, 32), drawn(draw, 32)
		s := wrapped(t, own, 1+draw.Intn(6), 1+draw.Intn(last), key)
		for i := range 29 {
			if strings.Contains(s, key[i:i+4]) || strings.Contains(s, own[i:i+4]) {
				t.Fatalf("%x has bytes of %x, or of %x", s, key, own)
			}
		}
	}
}

func TestNoncesOfDrawnPairsAreNeverOne(t *testing.T) {
	draw := rand.New(rand.NewSource(157))
	type pair struct{ who, count int }
	seen := map[string]pair{}
	check := func(p pair) {
		t.Helper()
		s, e := Nonce(p.who, p.count)
		if was, ok := seen[s]; e != api.OK || len(s) != 12 || ok && was != p {
			t.Fatalf("%v: %x %d, as of %v", p, s, e, was)
		}
		seen[s] = p
	}
	for who := range 7 {
		for count := range 2000 {
			check(pair{who, count})
			check(pair{who, last - count})
		}
		for bit := range 40 {
			// Numbers of one bit, and where who could be taken for a byte of them.
			check(pair{who, 1 << bit})
			check(pair{who, min(last, draw.Intn(7)<<bit)})
		}
	}
	for range 50000 {
		check(pair{draw.Intn(7), draw.Intn(1 << (1 + draw.Intn(40)))})
	}
	if len(seen) < 40000 {
		t.Errorf("what was drawn tells too little: %d", len(seen))
	}
}

// R1, R3 and R4.

func TestDrawnArguments(t *testing.T) {
	draw := rand.New(rand.NewSource(158))
	lengths := slices.Concat([]int{32, 32, 32, 32, 32, 32, 32, 32, 65}, noKeys)
	numbers := slices.Concat([]int{1, 2, 3, 4, 5, 6, 1, 2, 3, 4, 5, 6}, noMembers, epochs, noEpochs)
	isKey := func(s string) bool { return len(s) == 32 }
	isEpoch := func(n int) bool { return n > 0 && n <= last }
	yes, no := 0, 0
	// answered holds that there is an answer of so many bytes just where there must be one.
	answered := func(may bool, size int, s string, e api.Errno) {
		t.Helper()
		if may && (len(s) != size || e != api.OK) || !may && (s != "" || e != api.ErrArg && e != api.ErrSpent) {
			t.Fatalf("%d bytes %d, though it may be: %t", len(s), e, may)
		}
		if may {
			yes++
		} else {
			no++
		}
	}
	for range 20000 {
		a, b := text(lengths[draw.Intn(len(lengths))]), text(lengths[draw.Intn(len(lengths))])
		who, n := numbers[draw.Intn(len(numbers))], numbers[draw.Intn(len(numbers))]
		isWho := who > 0 && who < 7
		s, e := Send(a, who)
		answered(isKey(a) && isWho, 32, s, e)
		s, e = Keep(a)
		answered(isKey(a), 32, s, e)
		s, e = Fresh(a, n)
		answered(len(a) < 65 && isEpoch(n), 32, s, e)
		s, e = Nonce(who, n)
		answered((isWho || who == 0) && (isEpoch(n) || n == 0), 12, s, e)
		s, e = Wrap(a, who, n, b)
		answered(isKey(a) && isKey(b) && isWho && isEpoch(n), 48, s, e)
		if e == api.OK {
			s, e = Unwrap(a, who, n, s)
			is(t, s, e, b)
		} else if s, e = Unwrap(a, who, n, b); s != "" || e != api.ErrArg && e != api.ErrSeal {
			t.Fatalf("%d bytes %d", len(s), e)
		}
	}
	if yes < 2000 || no < 2000 {
		t.Errorf("what was drawn tells too little: %d %d", yes, no)
	}
}

func TestPiecesOfALongerText(t *testing.T) {
	// What stands behind a text's end is not read, and nothing is changed.
	own, key := text(32), rising(32)
	s := wrapped(t, own, 4, 9, key)
	long := own + key + s + "more"
	want := strings.Clone(long)
	isSend(t, long[:32], 4, expanded(t, own, "send\x04"))
	isKeep(t, long[:32], expanded(t, own, "keep"))
	isWrap(t, long[:32], 4, 9, long[32:64], s)
	got, e := Unwrap(long[:32], 4, 9, long[64:112])
	is(t, got, e, key)
	fresh, e := Fresh(strings.Clone(own), 9)
	if e != api.OK {
		t.Fatal(e)
	}
	isFresh(t, long[:32], 9, fresh)
	if long != want {
		t.Error("changed")
	}
}

func TestAnswersHangOnTheArgumentsAlone(t *testing.T) {
	own, key := text(32), rising(32)
	s := wrapped(t, own, 4, 9, key)
	send, keep, fresh := expanded(t, own, "send\x04"), expanded(t, own, "keep"), unhex(t, "637e6329517e10c99e77c78ce43b3dd5f2145996ebafcff1d89c484fc66b0168")
	again := func() {
		t.Helper()
		isSend(t, own, 4, send)
		isKeep(t, own, keep)
		isFresh(t, "seed", 1, fresh)
		isNonce(t, 4, 9, otherNonce(4, 9))
		isWrap(t, own, 4, 9, key, s)
	}
	for i := range 20 {
		Send(text(i), i)
		Keep(text(i))
		Fresh(text(4*i), i-3)
		Nonce(i, last-10+i)
		Wrap(text(22+i), i, i, key)
		Unwrap(text(22+i), i, i, s)
		again()
	}
	var wait sync.WaitGroup
	for range 8 {
		wait.Go(func() {
			for range 50 {
				again()
			}
		})
	}
	wait.Wait()
}
