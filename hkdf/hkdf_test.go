package hkdf

import (
	stdhkdf "crypto/hkdf"
	"crypto/sha256"
	"encoding/hex"
	"math"
	"math/rand"
	"slices"
	"strings"
	"testing"

	"samphire/api"
	"samphire/hmac"
)

// drawn is a text of n bytes, the same one in each run.
func drawn(n int) string {
	b := make([]byte, n)
	rand.New(rand.NewSource(int64(n))).Read(b)
	return string(b)
}

// otherKey is what another program extracts.
func otherKey(t *testing.T, salt, secret string) string {
	t.Helper()
	b, err := stdhkdf.Extract(sha256.New, []byte(secret), []byte(salt))
	if err != nil {
		t.Fatal(err)
	}
	return string(b)
}

// other is what another program expands.
func other(t *testing.T, key, purpose string, n int) string {
	t.Helper()
	b, err := stdhkdf.Expand(sha256.New, []byte(key), purpose, n)
	if err != nil {
		t.Fatal(err)
	}
	return string(b)
}

// expanded is what Expand answers where it must not refuse.
func expanded(t *testing.T, key, purpose string, n int) string {
	t.Helper()
	s, e := Expand(key, purpose, n)
	if e != api.OK {
		t.Fatalf("%d bytes: the error %d", n, e)
	}
	return s
}

func unhex(t *testing.T, s string) string {
	t.Helper()
	b, err := hex.DecodeString(s)
	if err != nil {
		t.Fatal(err)
	}
	return string(b)
}

// run are the bytes from a first one up to one ahead of another.
func run(from, to int) string {
	var b []byte
	for c := from; c < to; c++ {
		b = append(b, byte(c))
	}
	return string(b)
}

// Hk1: the test cases of RFC 5869, the chapter's example first.

func TestTheCasesOfRFC5869(t *testing.T) {
	for i, c := range []struct{ salt, secret, purpose, key, want string }{
		{
			run(0, 13), strings.Repeat("\x0b", 22), run(0xf0, 0xfa),
			"077709362c2e32df0ddc3f0dc47bba6390b6c73bb50f9c3122ec844ad7c2b3e5",
			"3cb25f25faacd57a90434f64d0362f2a2d2d0a90cf1a5a4c5db02d56ecc4c5bf34007208d5b887185865",
		},
		{
			run(0x60, 0xb0), run(0, 0x50), run(0xb0, 0x100),
			"06a6b88c5853361a06104c9ceb35b45cef760014904671014a193f40c15fc244",
			"b11e398dc80327a1c8e7f78c596a49344f012eda2d4efad8a050cc4c19afa97c59045a99cac7827271cb41c65e590e09" +
				"da3275600c2f09b8367793a9aca3db71cc30c58179ec3e87c14c01d5c1f3434f1d87",
		},
		{
			"", strings.Repeat("\x0b", 22), "",
			"19ef24a32c717b167f33a91d6f648bdf96596776afdb6377ac434c1c293ccb04",
			"8da4e775a563c18f715f802a063c5a31b8a11f5c5ee1879ec3454e5f3c738d2d9d201395faa4b61a96c8",
		},
	} {
		key, want := unhex(t, c.key), unhex(t, c.want)
		if got := Extract(c.salt, c.secret); got != key {
			t.Errorf("case %d: the key %x", i+1, got)
		}
		if got, e := Expand(key, c.purpose, len(want)); got != want || e != api.OK {
			t.Errorf("case %d: expanded %x, %d", i+1, got, e)
		}
		if got, e := Derive(c.salt, c.secret, c.purpose, len(want)); got != want || e != api.OK {
			t.Errorf("case %d: derived %x, %d", i+1, got, e)
		}
	}
}

// Hk1: Extract.

func TestExtractIsTheMacOfTheSecretUnderTheSalt(t *testing.T) {
	for _, salt := range []int{0, 1, 13, 31, 32, 33, 63, 64, 65, 300} {
		for _, secret := range []int{0, 1, 22, 32, 55, 56, 64, 65, 300, api.MaxText} {
			s, k := drawn(1000 + salt)[1000:], drawn(secret)
			got := Extract(s, k)
			if got != hmac.Mac(s, k) || got != otherKey(t, s, k) {
				t.Errorf("%d bytes with a salt of %d: %x", secret, salt, got)
			}
			if len(got) != api.SumSize {
				t.Errorf("%d bytes with a salt of %d: a key of %d", secret, salt, len(got))
			}
		}
	}
}

func TestAnEmptySaltIs32Noughts(t *testing.T) {
	for _, n := range []int{0, 1, 22, 32, 64, 300} {
		secret := drawn(n)
		want := hmac.Mac(strings.Repeat("\x00", 32), secret)
		if got := Extract("", secret); got != want || got != Extract(strings.Repeat("\x00", 32), secret) {
			t.Errorf("%d bytes: %x, not %x", n, got, want)
		}
	}
}

func TestSaltAndSecretAreNotTurnedRound(t *testing.T) {
	if Extract("salt", "secret") == Extract("secret", "salt") || Extract("a", "") == Extract("", "a") {
		t.Error("they are the same")
	}
	if Extract("ab", "c") == Extract("a", "bc") {
		t.Error("the end of a salt is the beginning of a secret")
	}
}

// Hk1: Expand.

func TestExpandOfSoManyBytes(t *testing.T) {
	for _, c := range []struct {
		n    int
		want string
	}{
		{0, ""},
		{1, "82"},
		{31, "82d5ebe1dffc3309706698147051123bd66c7bedae9ee6a390ff0f13c740cf"},
		{32, "82d5ebe1dffc3309706698147051123bd66c7bedae9ee6a390ff0f13c740cf54"},
		{33, "82d5ebe1dffc3309706698147051123bd66c7bedae9ee6a390ff0f13c740cf5421"},
		{64, "82d5ebe1dffc3309706698147051123bd66c7bedae9ee6a390ff0f13c740cf54214b30940974d74cd89228ced6898222c7015b8bdd39f424bdf621310f29e50e"},
		{65, "82d5ebe1dffc3309706698147051123bd66c7bedae9ee6a390ff0f13c740cf54214b30940974d74cd89228ced6898222c7015b8bdd39f424bdf621310f29e50ef2"},
	} {
		if got := expanded(t, "key", "purpose", c.n); got != unhex(t, c.want) {
			t.Errorf("%d bytes: %x, not %s", c.n, got, c.want)
		}
	}
}

func TestExpandOfTheMostBytes(t *testing.T) {
	got := expanded(t, "key", "purpose", 8160)
	if len(got) != 8160 {
		t.Fatalf("%d bytes", len(got))
	}
	if end := unhex(t, "c834bd7f05d55f717eabeeeedd1d0a0d357728a0ea9c02c25429d58823d22d61"); got[8160-32:] != end {
		t.Errorf("the last 32: %x", got[8160-32:])
	}
	sum := sha256.Sum256([]byte(got))
	if string(sum[:]) != unhex(t, "16c390a217fe03f09185ac9f77456ea395981510962a72481eb23aea2936dd04") {
		t.Errorf("their sum: %x", sum)
	}
}

func TestExpandPartByPart(t *testing.T) {
	key, purpose := drawn(32), drawn(20)
	all := expanded(t, key, purpose, api.MaxExpand)
	last := ""
	for i := 1; i <= 255; i++ {
		last = hmac.Mac(key, last+purpose+string([]byte{byte(i)}))
		if part := all[(i-1)*32 : i*32]; part != last {
			t.Errorf("the part %d: %x, not %x", i, part, last)
		}
	}
}

func TestExpandBesideAnotherProgram(t *testing.T) {
	for _, key := range []int{0, 1, 31, 32, 33, 63, 64, 65, 300} {
		for _, purpose := range []int{0, 1, 22, 23, 24, 54, 55, 56, 64, 300, 5000} {
			k, p := drawn(key), drawn(6000 + purpose)[6000:]
			for _, n := range []int{0, 1, 31, 32, 33, 63, 64, 65, 96, 97, 500} {
				if got := expanded(t, k, p, n); got != other(t, k, p, n) {
					t.Errorf("%d bytes of a key of %d for a purpose of %d: %x", n, key, purpose, got)
				}
			}
		}
	}
	k, p := drawn(32), drawn(api.MaxText)
	if expanded(t, k, p, 100) != other(t, k, p, 100) || expanded(t, p, k, 100) != other(t, p, k, 100) {
		t.Error("of long ones it is otherwise")
	}
}

func TestExpandOfNoByteIsOK(t *testing.T) {
	for _, key := range []string{"", "key", drawn(300)} {
		if s, e := Expand(key, "purpose", 0); s != "" || e != api.OK {
			t.Errorf("of a key of %d bytes: %q, %d", len(key), s, e)
		}
		if s, e := Derive("salt", key, "", 0); s != "" || e != api.OK {
			t.Errorf("of a secret of %d bytes: %q, %d", len(key), s, e)
		}
	}
}

func TestOtherPurposesAndKeysOtherBytes(t *testing.T) {
	one := expanded(t, "key", "purpose", 64)
	for _, c := range [][2]string{
		{"key", "purposE"}, {"key", "purpose\x00"}, {"key", "purpose\x01"}, {"key", ""}, {"key", "purpos"},
		{"keY", "purpose"}, {"", "purpose"}, {"keyp", "urpose"}, {"purpose", "key"},
	} {
		s := expanded(t, c[0], c[1], 64)
		if s[:32] == one[:32] || s[32:] == one[32:] {
			t.Errorf("%q for %q: the same", c[0], c[1])
		}
	}
}

// Hk1, R1, R2: numbers of bytes that may not be.

func TestTooFewOrTooManyBytes(t *testing.T) {
	for _, n := range []int{-1, -2, -31, -32, -33, -8160, math.MinInt32, math.MinInt, 8161, 8162, 8191, 8192, 1 << 16, math.MaxInt32, math.MaxInt - 31, math.MaxInt} {
		for _, key := range []string{"", "key", drawn(300)} {
			if s, e := Expand(key, "purpose", n); s != "" || e != api.ErrArg {
				t.Errorf("expanded to %d: %d bytes, %d", n, len(s), e)
			}
			if s, e := Derive("salt", key, "purpose", n); s != "" || e != api.ErrArg {
				t.Errorf("derived to %d: %d bytes, %d", n, len(s), e)
			}
			if s, e := Derive("", key, "", n); s != "" || e != api.ErrArg {
				t.Errorf("derived without salt to %d: %d bytes, %d", n, len(s), e)
			}
		}
	}
}

// Hk1: Derive.

func TestDeriveIsExpandOfExtract(t *testing.T) {
	for _, salt := range []string{"", "salt", strings.Repeat("\x00", 32), drawn(65)} {
		for _, secret := range []string{"", "secret", drawn(32), drawn(300)} {
			for _, n := range []int{-1, 0, 1, 31, 32, 33, 64, 65, 8160, 8161} {
				want, wantError := Expand(Extract(salt, secret), "purpose", n)
				if got, e := Derive(salt, secret, "purpose", n); got != want || e != wantError {
					t.Errorf("%q of %q to %d: %x, %d", secret, salt, n, got, e)
				}
			}
		}
	}
}

func TestDeriveBesideAnotherProgram(t *testing.T) {
	for _, n := range []int{0, 1, 31, 32, 33, 64, 65, 8160} {
		for _, salt := range []string{"", "salt", drawn(80)} {
			want := other(t, otherKey(t, salt, "secret"), "purpose", n)
			if got, e := Derive(salt, "secret", "purpose", n); got != want || e != api.OK {
				t.Errorf("%d bytes with a salt of %d: %x, %d", n, len(salt), got, e)
			}
		}
	}
}

// Hk2.

func TestFewerBytesAreTheFirstOnesOfMore(t *testing.T) {
	for _, key := range []string{"", "key", drawn(32), drawn(65)} {
		all := expanded(t, key, "purpose", api.MaxExpand)
		derived, _ := Derive("salt", key, "purpose", api.MaxExpand)
		for _, n := range append(numbers(0, 130), 255, 256, 257, 1000, 4095, 4096, 8127, 8128, 8129, 8159) {
			if s := expanded(t, key, "purpose", n); s != all[:n] {
				t.Errorf("%d bytes of a key of %d: %x", n, len(key), s)
			}
			if s, e := Derive("salt", key, "purpose", n); e != api.OK || s != derived[:n] {
				t.Errorf("%d bytes of a secret of %d: %x, %d", n, len(key), s, e)
			}
		}
	}
}

// numbers are those from a first one up to one ahead of another.
func numbers(from, to int) []int {
	var l []int
	for n := from; n < to; n++ {
		l = append(l, n)
	}
	return l
}

// R3, R4: the same arguments, the same answers, whatever was called between, and however the texts lie in memory.

func TestAnswersHangOnArgumentsAlone(t *testing.T) {
	tell := func() []string {
		var l []string
		for n := range 130 {
			s := drawn(200)
			one, _ := Expand(s[:n], s[n:], n)
			two, _ := Derive(s[n:], s[:n], drawn(n), 130-n)
			l = append(l, one, two, Extract(s[:n], s[n:]))
		}
		return l
	}
	first := tell()
	Expand("key", "purpose", api.MaxExpand)
	Expand("key", "purpose", -1)
	Derive("", "", "", api.MaxExpand+1)
	Extract("", "")
	if !slices.Equal(first, tell()) {
		t.Error("the second time it was otherwise")
	}
}
