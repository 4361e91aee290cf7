package aead

import (
	"crypto/sha256"
	"encoding/binary"
	"encoding/hex"
	"math/rand"
	"strings"
	"testing"

	"samphire/api"
	"samphire/chacha"
	"samphire/poly"
)

// The key, the nonce and the bound text of RFC 8439's example.
const (
	rfcKey   = "808182838485868788898a8b8c8d8e8f909192939495969798999a9b9c9d9e9f"
	rfcNonce = "070000004041424344454647"
	rfcBound = "50515253c0c1c2c3c4c5c6c7"
)

// knownLengths are those of the texts, and of what they are bound to, whose seals are known.
var knownLengths = [12]int{0, 1, 15, 16, 17, 31, 32, 33, 63, 64, 65, 512}

// knownTurned is the known text of 512 bytes, sealed: a shorter one's is a beginning of it.
const knownTurned = "" +
	"9f7ce7481dde6a8b2dddc9b662da68c7b1b7f6ba8592f47f7525663a9149d17cae7925cd508d543aa0c59422cee010a12553ec0bd21a17cee82b1352b513a9e0" +
	"3c760a8a9efa045d1495d8ce5a7d4b51beec7f81d0f05b804f8fdad6bfcf2b56fc2115205ca8c72348c550a81050e42b052f1226e2065696ee3935a6b9848d1d" +
	"f573f1c3e53d6772e7d3e092859892ca307eea4317cbfa7bdd38e3937deda8ede72a1c85a539b35ae7c7c2564f60bbb1867680fed1e0330b62a5709ef322b48f" +
	"c3358446a570481df6e8bdee4cdf34ba35a6049d674d09a21717062bb45ff00b3419367a3a9e3fa273e0243b927b7bd38e9fc2a3c6699f29815422ddbda83591" +
	"e0a652257e0bbeb77a298f2a578048f0c8ceac868e0d40453aed50127636eccfd180caf8511129eda974512c645494e9cf5edab8754ba1a40c4d86f9d2828f4a" +
	"07c0e340e565f69d5ad5971239584bb856f9beaa116cc70d1dd733554a13edb08da9440e69975765f6efb528d2a519e8c3bf6bf591d478da1a5559047e664fc0" +
	"cb9f1a5f954badde35cddc4ae6a26774b6b195655bb51acc9137f658d18f4567e5c1fb272ffa2dcf0bca99171d3d0c9e003bd5422d75eb7c456252ca43391570" +
	"3464e14542d0f36b56954c3803f843784c75e2c5e5da548739eca15a11c14572787c2094d453fbef7d86d2f00ca22f05d352765273f80a49df1d24f1286e8aad"

// knownTags are the tags of known texts of all the known lengths, bound to one of the same lengths: a row for each of the latter.
var knownTags = [12][12]string{
	{
		"a0784d7a4716f3feb4f64e7f4b39bf04", "bb758e737cb56e18df4748421b085bb0", "14ef927817e63c54d83a53345ac0c418", "a6e89dc65ece589bc315c17ee36e351a",
		"02d4f47aa0465058f8c8284395201c3f", "59a1d41720f3b98b7d21123b7d52b4e2", "f9ac1cc9c7233dda99c5802869d70dc4", "59bd1f74f52468267390562ff62468a3",
		"6e2195aeb18799db223e5a134e4dfc67", "4f6a368683029375a880722761b474c9", "1bbc365022a044f7cf0cebac45919f98", "5cbdfeb75dc80982d51828d8e24a3d01",
	},
	{
		"f5e369b6dba01f27fe6a4e2d6526cbae", "0ba8ad51ac9661d88e94e4b778fbec1c", "5f21b25647c72f148887efa9b7b35685", "f11abda48eaf4b5b73625df44062c786",
		"b2094a97664a82e85f4484f3be3ca284", "04d72934e6f6eb1be59c6deba66e3a28", "a9e271e58d276f6a0141dcd892f39309", "9d333ea78fd8d5bf86a7dad92a5183bf",
		"3ca7c1fe57b3a5e7af4ae0feed36afad", "1df062d6292e9f81358df812019e270f", "41e97d0daf2b02898c9aaa908d0206e7", "95c3effe91f2257c1abb7ffc935acac6",
	},
	{
		"b04a0fe2ababd96831bfb2cee720e8d9", "9378333799149d48b76c51d58112e0c9", "e7f1373c34456b84b05f5cc7c0ca4932", "79eb428a7b2d87cb9b3aca114a79ba33",
		"02956d098b5ff5611c94e08667f0aeb1", "59624da60a0c5f95a1ecc97e4f224755", "f96d9557b23ce2e3bd90386c3ba7a036", "cc7e3d25a1f144e778083a59dd313a51",
		"063e26045672b208ba8972fa04d9db41", "e786c7db27edaba23fcc8a0e184054a3", "d167d26f8efcaff3a93458f0d3f0684e", "c7fd3d5eedeca98f524e695038f9e222",
	},
	{
		"305ef66a30956663e3412b7244b24b6b", "32633d8b2b468d8008c238be7ae80ac0", "8bdc4190c6765bbc01b543b0b9a07428", "1dd64cde0d5f7703ed8fb1fa424fe529",
		"68f5c94e3429a87b84b393e9ce7bdd12", "bac2a9ebb3d511af090c7de1b6ad75b6", "5fcef19c5b0695fd25b0ebcea232cf97", "89fe916f622a1a1510faaeba16d91802",
		"aabf9e6dfc0e161d8b9c04d057796eb7", "8b084045ce890fb710df1ce46ae0e618", "07f2a780ee35fa5718ae6bb0e3f7101e", "2e6e1d72fc809dca9d182912fd91f8ca",
	},
	{
		"ca3ed4abeae3d38c5e58e3b35b12ca39", "9daf4563661dc74432248a5aad1f8370", "f1284a68014e95802b17954cecd7ecd8", "832255b64836b1c716f2029775865dda",
		"7afbd2d82943ab4b8a703ecf5d13a3be", "ccc8b275a9ef147f0fc927c745453b62", "71d4fa26512098cd2b6d96b431ca9443", "49b3aa643e3d5d39675c225aaab911ca",
		"f89d8c870a14d6c9341637212440d656", "d9e62d5fdc8ecf63ba584f3537a74eb8", "e705fc4d139fa6a08641498ee96a18d3", "653af1de8d373a804f7897712581d583",
	},
	{
		"8add496b0da63a0c3d4182b77c1feb5b", "a1f45869a4c1b114b524098bca7b64b1", "f56d5d6e3ff27f50ae17147d0934ce19", "876768bc86da9b9799f281c792e23e1b",
		"02bd0545dea9917e41ce86925b762f21", "598ae5e15d56fbb1c626708a43a8c7c4", "f9952d9305877e00e3cade772f2d21a6", "807b0ae9bf1c2ab3378f75d7d2a2e320",
		"01d866bc12ea22dafac1392557f38957", "e2200894e4641c74800452396a5a02b9", "f3d95fe469cae793b8e8bad401173e29", "701321cf10fc9edd86a27ad015444b22",
	},
	{
		"511b06ecb08a840b7f11c8d7a7d36849", "dd1230ed4344bda954c3abadbe1bafd6", "368c34f2de748be54db6b69ffdd3183f", "c8853f40265da72c399124ea86828940",
		"c4b939b6370816c9dc671e13ee25b01c", "1b871953b7b47ffc61c0070bd65748c0", "bb9261045fe5024b7e6476f8c1dca1a1", "d5f65cf0156345f77a051fcc572dec43",
		"dac9cdc5366028ba8060f238b536499d", "bb126f9d08db215406a30a4dc89dc1fe", "bf4ef158507031c0cd3c0321b708ccbb", "8f9120a56f2222bec28ccb0074c3a29d",
	},
	{
		"ce5b82eb629499b3e1ccfaad3651bdcb", "2a5a780890a042dba17d4f80c7922afa", "7ed37c0d2bd110179b705a72064b9462", "10cd875b72b92c5e864bc8bc8ff90464",
		"63a4b49f336f4da2823e10311d8ac6db", "b571943cb31bb7d50797f92805bc5e7f", "5a7ddced5a4c3a24243b6816f140b860", "e99e3cbbdc6b7a0ed576ad867db3086b",
		"80bb2fb8521988b326cfa4b08ff34618", "6104d18f2494814dac11bdc4a25abf79", "22ad664f767c8098374dfed874b6b1c2", "2ebf0b2a8515a40d79516570d11479e0",
	},
	{
		"a12ae1a5127235ff651d46f35411eba3", "cae9317ae04780f416cacf82478cb2cf", "1e63367f7b784e3010bdda7486441c38", "b05c41cdc2606a77fb9748bf0ff38c39",
		"38e70c60016f52fab4eb4562d853de5c", "8ab4ecfc801bbc2d3a442f5ac0857600", "2fc034ae284c3f7c56e89d47ac0ad0e1", "9c73c74a72aba1093d558a999a515105",
		"2ee4843db68c3c6c0d720ca2955f00b7", "0f2d26158807360693b424b6a8c67818", "cc870ece5b39a5b180dcc01a492fcba3", "af9e2b4519951328d15b8b67df9ca71c",
	},
	{
		"f6bc4716f44cf907c888260d1d0b9d49", "4a6fa35d9a6cc24353fbe81832c03c53", "9ee8a762359d907f4ceef30a7178a6bb", "30e2b2b07c85acc637c96155fa2617bd",
		"b21cf028bbf679a6b679a61ec14b038d", "09eacfc53aa3e3d93bd28f16a97d9b30", "a9f51777e2d366285876fe039502f511", "26e615ccf10c497ad8d49cb4b6a2ad0c",
		"67b6c886d5b585e3fc2712320ae9189d", "48ff695ea7307f7d826a2a461d5091fe", "bfd1170a4fb8ed6de3e5727f49f624bc", "48386b9f17e0b553ee85fe7470e9823e",
	},
	{
		"f2926c177921ca484eeb802ed80ce93e", "7589b4f65fd7c14aaad94c84904a276a", "c902b9fbfa079086a3cc5776cf0291d2", "5bfcc34942f0abcd8ea7c5c058b101d4",
		"e4f49a07bcff3e0efb9251ba7844285b", "3bc27aa43baca84180eb3ab26076c0fe", "dbcdc255e3dc2b909c8fa99f4cfb19e0", "5b4efd78437ceda741eb0707bede10e1",
		"20c0091a1ef73964b5ccc04c52260b60", "0109abf1ef7133fe3a0fd960658d83c1", "47b70ddce54c6eb198bc6ef8f0cc5d40", "93e878e9b1a6fc42abfd6dc570e617b0",
	},
	{
		"80000c1e37969fb1b11c521f4564f9d7", "7f5bd229f3eff6415b26ad2b1e6c7908", "d3d4d62e8e20c57d5419b81d5d24e370", "65cee17cd508e1c43ff42568e6d25372",
		"1ae79864585be25863576d95db8d64e4", "6cb47801d8074c8ce8af568dc3bffc87", "11c0c0b27f38cfda0454c57aaf445669", "459bd5e2859bb62e7a532766dee76965",
		"39a9251af40c62da81bece365a5a48c2", "1af2c6f1c5875b740701e74a6dc1c023", "414b919ec7521c0a9172cfd595bac17e", "b2be0a1ffc9394f97b31853613233c77",
	},
}

// drawn is a text of n bytes, the same one in each run.
func drawn(n int) string {
	b := make([]byte, n)
	rand.New(rand.NewSource(int64(n))).Read(b)
	return string(b)
}

// knownText are the first n bytes of the text whose seals are known, knownBound of what it is bound to there.
func knownText(n int) string {
	b := make([]byte, n)
	for i := range b {
		b[i] = byte(7*i + i/256)
	}
	return string(b)
}

func knownBound(n int) string {
	b := make([]byte, n)
	for i := range b {
		b[i] = byte(255 - 3*i - i/256)
	}
	return string(b)
}

func unhex(t *testing.T, s string) string {
	t.Helper()
	b, err := hex.DecodeString(s)
	if err != nil {
		t.Fatal(err)
	}
	return string(b)
}

// sealOf is what Seal answers where it must not refuse.
func sealOf(t *testing.T, key, nonce, bound, s string) string {
	t.Helper()
	sealed, e := Seal(key, nonce, bound, s)
	if e != api.OK || len(sealed) != len(s)+16 {
		t.Fatalf("%d bytes bound to %d: %d bytes, the error %d", len(s), len(bound), len(sealed), e)
	}
	return sealed
}

// opens sees to it that a sealed text is opened as it was.
func opens(t *testing.T, key, nonce, bound, sealed, want string) {
	t.Helper()
	if got, e := Open(key, nonce, bound, sealed); e != api.OK || got != want {
		t.Errorf("%d bytes bound to %d: not what was sealed, or the error %d", len(sealed), len(bound), e)
	}
}

// refuses sees to it that Open answers an error and nothing else.
func refuses(t *testing.T, want api.Errno, key, nonce, bound, sealed string) {
	t.Helper()
	if got, e := Open(key, nonce, bound, sealed); e != want || got != "" {
		t.Errorf("%d bytes bound to %d, a key of %d, a nonce of %d: %d bytes, the error %d, not %d",
			len(sealed), len(bound), len(key), len(nonce), len(got), e, want)
	}
}

// otherSeal is a sealed text, put together once more of the layers below.
func otherSeal(t *testing.T, key, nonce, bound, s string) string {
	t.Helper()
	c, e := chacha.Stream(key, nonce, 1, s)
	if e != api.OK {
		t.Fatal(e)
	}
	block, _ := chacha.Block(key, nonce, 0)
	b := []byte(bound)
	for len(b)%16 > 0 {
		b = append(b, 0)
	}
	b = append(b, c...)
	for len(b)%16 > 0 {
		b = append(b, 0)
	}
	b = binary.LittleEndian.AppendUint64(b, uint64(len(bound)))
	b = binary.LittleEndian.AppendUint64(b, uint64(len(c)))
	tag, e := poly.Mac(block[:32], string(b))
	if e != api.OK {
		t.Fatal(e)
	}
	return c + tag
}

// turnedAt is a text with n bytes from at on, each another one.
func turnedAt(s string, at, n int) string {
	b := []byte(s)
	for i := at; i < at+n; i++ {
		b[i] ^= byte(1 + (7*i+n)%255)
	}
	return string(b)
}

// Ae1 and Ae2: what is known.

func TestSealOfTheChaptersExample(t *testing.T) {
	for _, c := range []struct{ key, nonce, want string }{
		{strings.Repeat("\x00", 32), strings.Repeat("\x00", 12), "4eb972c9a8fb3a1b382bb4d36f5ffad1"},
		{strings.Repeat("\xff", 32), strings.Repeat("\xff", 12), "0b5528ab3ff425fbf1fce9fcfb979029"},
		{unhex(t, rfcKey), unhex(t, rfcNonce), "a0784d7a4716f3feb4f64e7f4b39bf04"},
	} {
		sealed := sealOf(t, c.key, c.nonce, "", "")
		if len(sealed) != 16 || sealed != unhex(t, c.want) {
			t.Errorf("%x, not %s", sealed, c.want)
		}
		opens(t, c.key, c.nonce, "", sealed, "")
	}
}

func TestSealOfRFC8439(t *testing.T) {
	sun := "Ladies and Gentlemen of the class of '99: If I could offer you only one tip for the future, sunscreen would be it."
	drafts := "Internet-Drafts are draft documents valid for a maximum of six months and may be updated, replaced, or obsoleted by " +
		"other documents at any time. It is inappropriate to use Internet-Drafts as reference material or to cite them other than as " +
		"/\xe2\x80\x9cwork in progress./\xe2\x80\x9d"
	for i, c := range []struct{ key, nonce, bound, text, want string }{
		{rfcKey, rfcNonce, rfcBound, sun, "" +
			"d31a8d34648e60db7b86afbc53ef7ec2a4aded51296e08fea9e2b5a736ee62d6" +
			"3dbea45e8ca9671282fafb69da92728b1a71de0a9e060b2905d6a5b67ecd3b36" +
			"92ddbd7f2d778b8c9803aee328091b58fab324e4fad675945585808b4831d7bc" +
			"3ff4def08e4b7a9de576d26586cec64b6116" +
			"1ae10b594f09e26a7e902ecbd0600691"},
		{"1c9240a5eb55d38af333888604f6b5f0473917c1402b80099dca5cbc207075c0", "000000000102030405060708", "f33388860000000000004e91", drafts, "" +
			"64a0861575861af460f062c79be643bd5e805cfd345cf389f108670ac76c8cb2" +
			"4c6cfc18755d43eea09ee94e382d26b0bdb7b73c321b0100d4f03b7f355894cf" +
			"332f830e710b97ce98c8a84abd0b948114ad176e008d33bd60f982b1ff37c855" +
			"9797a06ef4f0ef61c186324e2b3506383606907b6a7c02b0f9f6157b53c867e4" +
			"b9166c767b804d46a59b5216cde7a4e99040c5a40433225ee282a1b0a06c523e" +
			"af4534d7f83fa1155b0047718cbc546a0d072b04b3564eea1b422273f548271a" +
			"0bb2316053fa76991955ebd63159434ecebb4e466dae5a1073a6727627097a10" +
			"49e617d91d361094fa68f0ff77987130305beaba2eda04df997b714d6c6f2c29" +
			"a6ad5cb4022b02709b" +
			"eead9d67890cbb22392336fea1851f38"},
	} {
		key, nonce, bound, want := unhex(t, c.key), unhex(t, c.nonce), unhex(t, c.bound), unhex(t, c.want)
		if got := sealOf(t, key, nonce, bound, c.text); got != want {
			t.Errorf("the seal %d: %x", i+1, got)
		}
		opens(t, key, nonce, bound, want, c.text)
	}
}

func TestSealOfKnownTextsBoundToKnownTexts(t *testing.T) {
	key, nonce, turned := unhex(t, rfcKey), unhex(t, rfcNonce), unhex(t, knownTurned)
	for i, row := range knownTags {
		for j, tag := range row {
			bound, text := knownBound(knownLengths[i]), knownText(knownLengths[j])
			want := turned[:len(text)] + unhex(t, tag)
			if got := sealOf(t, key, nonce, bound, text); got != want {
				t.Errorf("%d bytes bound to %d: %x, not %x", len(text), len(bound), got, want)
			}
			opens(t, key, nonce, bound, want, text)
		}
	}
}

func TestSealOfAsMuchAsMayBe(t *testing.T) {
	key, nonce := unhex(t, rfcKey), unhex(t, rfcNonce)
	for _, c := range []struct {
		bound, text int
		tag, sum    string
	}{
		{0, 32768, "2ebb171ad4602a30a6733016e7578b15", "32db611802fd6e169133da4fea37f21d79c3e08341fdd359333ff5e212310d86"},
		{32768, 0, "af85ce72cf88fc18fad138a2638d251f", "9f55f4f93f4beeb81a99ab466d98526e941fb5b3fe86896e6e8dd24e6b189b4b"},
		{16384, 16384, "fda1120c0bc4f2892aeba34535ac56e6", "7a526a00bf7f3596cea7a3482c943608fbb3e1a19d204ce3c908e7feaa067572"},
		{1, 32767, "8b0864b1a7bc056984f51ff11d7a1396", "0825dd141d7c9f72b9a1da2eca2e9ccdf7c61d8d6993345f6a0778db62a44a7e"},
		{32767, 1, "acf55c100f4038fb9db8c1c7ef10ff45", "3bd49334603f6c9759a2bcf238454ea8a69a8491225ebb6186df305d517cf0b9"},
		{15, 32753, "a7c04f617b1e024d7092f6d668f323c8", "5547069cc5e946061485e560caa2484aefc8e6d32dd41e16e47c02e1efa5a13d"},
		{32752, 16, "af0f5c2665c1ef9ce303e3e85624a64f", "0fd5d3c3acd3e947c9875192e35cb65154dde6917d1df21c7430e5994af571b6"},
	} {
		bound, text := knownBound(c.bound), knownText(c.text)
		sealed := sealOf(t, key, nonce, bound, text)
		sum := sha256.Sum256([]byte(sealed))
		if sealed[len(text):] != unhex(t, c.tag) || string(sum[:]) != unhex(t, c.sum) {
			t.Errorf("%d bytes bound to %d: the tag %x, the sum %x", c.text, c.bound, sealed[len(text):], sum)
		}
		opens(t, key, nonce, bound, sealed, text)
	}
}

func TestSealsOfDrawnTextsBesideTheLayersBelow(t *testing.T) {
	draw := rand.New(rand.NewSource(7))
	for range 500 {
		all := drawn(1000 + draw.Intn(1000))
		key, nonce, bound, text := all[:32], all[32:44], all[44:44+draw.Intn(200)], all[300:300+draw.Intn(400)]
		sealed := sealOf(t, key, nonce, bound, text)
		if sealed != otherSeal(t, key, nonce, bound, text) {
			t.Errorf("%d bytes bound to %d under %x and %x: %x", len(text), len(bound), key, nonce, sealed)
		}
		opens(t, key, nonce, bound, sealed, text)
	}
}

func TestSealOfNoughtsTellsTheLengths(t *testing.T) {
	// The sealed text is made of noughts, too, so that noughts are all that a tag is told of but for the lengths.
	key, nonce := unhex(t, rfcKey), unhex(t, rfcNonce)
	stream, _ := chacha.Stream(key, nonce, 1, strings.Repeat("\x00", 40))
	seen := map[string][2]int{}
	for b := range 40 {
		for n := range 40 {
			sealed := sealOf(t, key, nonce, strings.Repeat("\x00", b), stream[:n])
			if sealed[:n] != strings.Repeat("\x00", n) {
				t.Fatalf("%x", sealed)
			}
			if other, ok := seen[sealed[n:]]; ok {
				t.Errorf("%d bytes bound to %d have the tag of %d", n, b, other)
			}
			seen[sealed[n:]] = [2]int{b, n}
		}
	}
}

// Ae1 and Ae2: what is refused by ErrArg.

func TestWrongKeysAndNonces(t *testing.T) {
	key, nonce := drawn(40), drawn(41)
	wrong := [][2]int{{31, 12}, {33, 12}, {32, 11}, {32, 13}, {0, 12}, {32, 0}, {1, 12}, {32, 1}, {12, 32}, {16, 12}, {32, 8}, {32, 24}, {0, 0}, {31, 13}, {33, 11}}
	for _, c := range wrong {
		k, n := key[:c[0]], nonce[:c[1]]
		for _, text := range []string{"", "a", drawn(15), drawn(16), drawn(100), drawn(32768), drawn(32769)} {
			if got, e := Seal(k, n, "bound", text); got != "" || e != api.ErrArg {
				t.Errorf("a key of %d bytes, a nonce of %d, a text of %d: %d bytes, the error %d", c[0], c[1], len(text), len(got), e)
			}
			// A text that is too short, or was not sealed so, is not what is told: ErrArg is named first.
			refuses(t, api.ErrArg, k, n, "bound", text)
		}
		refuses(t, api.ErrArg, k, n, "bound", sealOf(t, key[:32], nonce[:12], "bound", "text"))
		refuses(t, api.ErrArg, k, n, "", sealOf(t, key[:32], nonce[:12], "", ""))
	}
}

func TestTooMuchTogether(t *testing.T) {
	key, nonce := drawn(32), drawn(12)
	for _, c := range [][2]int{{0, 32769}, {32769, 0}, {16384, 16385}, {16385, 16384}, {1, 32768}, {32768, 1}, {32753, 16}, {16, 32753}, {0, 65536}, {65536, 0}, {32768, 32768}, {65537, 65537}, {0, 100000}, {100000, 0}} {
		bound, text := drawn(c[0]), drawn(c[1])
		if got, e := Seal(key, nonce, bound, text); got != "" || e != api.ErrArg {
			t.Errorf("%d bytes bound to %d: %d bytes, the error %d", c[1], c[0], len(got), e)
		}
		refuses(t, api.ErrArg, key, nonce, bound, text+drawn(16))
		if c[0]+c[1] == 32769 {
			// Even with the tag that it would have: it is the length that is refused.
			refuses(t, api.ErrArg, key, nonce, bound, otherSeal(t, key, nonce, bound, text))
		}
	}
}

func TestOpenOfAsMuchAsMayBe(t *testing.T) {
	key, nonce := drawn(32), drawn(12)
	for _, c := range [][2]int{{0, 32768}, {32768, 0}, {16384, 16384}, {1, 32767}, {32767, 1}, {32752, 16}} {
		bound, text := drawn(c[0]), drawn(c[1])
		sealed := sealOf(t, key, nonce, bound, text)
		if len(sealed) != c[1]+16 {
			t.Fatal(len(sealed))
		}
		opens(t, key, nonce, bound, sealed, text)
		refuses(t, api.ErrSeal, key, nonce, bound, turnedAt(sealed, len(sealed)-1, 1))
		refuses(t, api.ErrSeal, key, nonce, bound, turnedAt(sealed, 0, 1))
		refuses(t, api.ErrArg, key, nonce, bound, sealed+"\x00")
		refuses(t, api.ErrArg, key, nonce, bound, "\x00"+sealed)
		refuses(t, api.ErrArg, key, nonce, bound+"\x00", sealed)
	}
}

// Ae2: what is refused by ErrSeal.

func TestOpenOfTooShortTexts(t *testing.T) {
	key, nonce := drawn(32), drawn(12)
	for _, bound := range []string{"", "a", drawn(16), drawn(32767), drawn(32768)} {
		whole := sealOf(t, key, nonce, bound, "")
		for n := range 16 {
			for _, sealed := range []string{whole[:n], whole[16-n:], drawn(n), strings.Repeat("\x00", n)} {
				refuses(t, api.ErrSeal, key, nonce, bound, sealed)
			}
		}
		opens(t, key, nonce, bound, whole, "")
	}
	for _, n := range []int{0, 1, 15} {
		short := drawn(n)
		refuses(t, api.ErrArg, drawn(31), nonce, "", short)
		refuses(t, api.ErrArg, drawn(33), nonce, "", short)
		refuses(t, api.ErrArg, key, drawn(11), "", short)
		refuses(t, api.ErrArg, key, drawn(13), "", short)
		refuses(t, api.ErrArg, key, nonce, drawn(32769), short)
		refuses(t, api.ErrArg, key, nonce, drawn(100000), short)
	}
}

func TestOpenOfWhatWasSealedOtherwise(t *testing.T) {
	key, nonce, bound, text := drawn(32), drawn(12), drawn(21), drawn(70)
	sealed := sealOf(t, key, nonce, bound, text)
	for i := range key {
		refuses(t, api.ErrSeal, turnedAt(key, i, 1), nonce, bound, sealed)
	}
	for i := range nonce {
		refuses(t, api.ErrSeal, key, turnedAt(nonce, i, 1), bound, sealed)
	}
	for i := range 8 * len(bound) {
		b := []byte(bound)
		b[i/8] ^= 1 << (i % 8)
		refuses(t, api.ErrSeal, key, nonce, string(b), sealed)
	}
	for i := range 8 * len(sealed) {
		b := []byte(sealed)
		b[i/8] ^= 1 << (i % 8)
		refuses(t, api.ErrSeal, key, nonce, bound, string(b))
	}
}

func TestOpenOfWhatIsCutOrMore(t *testing.T) {
	key, nonce, bound, text := drawn(32), drawn(12), drawn(21), drawn(70)
	sealed := sealOf(t, key, nonce, bound, text)
	for n := range sealed {
		refuses(t, api.ErrSeal, key, nonce, bound, sealed[:n])
		refuses(t, api.ErrSeal, key, nonce, bound, sealed[n+1:])
		refuses(t, api.ErrSeal, key, nonce, bound, sealed[:n]+sealed[n+1:])
	}
	for n := range bound {
		refuses(t, api.ErrSeal, key, nonce, bound[:n], sealed)
		refuses(t, api.ErrSeal, key, nonce, bound[n+1:], sealed)
	}
	for n := 1; n < 40; n++ {
		noughts := strings.Repeat("\x00", n)
		refuses(t, api.ErrSeal, key, nonce, bound, sealed+noughts)
		refuses(t, api.ErrSeal, key, nonce, bound, noughts+sealed)
		// As many noughts as a tag is told of anyway: the lengths tell them apart.
		refuses(t, api.ErrSeal, key, nonce, bound, sealed[:70]+noughts+sealed[70:])
		refuses(t, api.ErrSeal, key, nonce, bound+noughts, sealed)
	}
	// What goes from the bound text to the sealed one, and back.
	whole := sealOf(t, key, nonce, drawn(32), drawn(64))
	all := drawn(32) + whole
	for n := range 96 {
		if n != 32 {
			refuses(t, api.ErrSeal, key, nonce, all[:n], all[n:])
		}
	}
	opens(t, key, nonce, all[:32], all[32:], drawn(64))
	refuses(t, api.ErrSeal, key, nonce, sealed[:70], bound+sealed[70:])
}

func TestOpenOfTagsOfOtherThings(t *testing.T) {
	key, nonce, bound, text := drawn(32), drawn(12), drawn(21), drawn(70)
	c, _ := chacha.Stream(key, nonce, 1, text)
	block, _ := chacha.Block(key, nonce, 0)
	later, _ := chacha.Block(key, nonce, 1)
	size := func(n int) string { return string(binary.LittleEndian.AppendUint64(nil, uint64(n))) }
	great := func(n int) string { return string(binary.BigEndian.AppendUint64(nil, uint64(n))) }
	fill := func(s string) string { return s + strings.Repeat("\x00", (16-len(s)%16)%16) }
	for i, x := range []struct{ key, told string }{
		{block[:32], c},
		{block[:32], bound + c},
		{block[:32], bound + c + size(21) + size(70)},
		{block[:32], fill(bound) + c + size(21) + size(70)},
		{block[:32], bound + fill(c) + size(21) + size(70)},
		{block[:32], fill(bound) + fill(c)},
		{block[:32], fill(bound) + fill(c) + size(70) + size(21)},
		{block[:32], fill(bound) + fill(c) + great(21) + great(70)},
		{block[:32], fill(bound) + fill(c) + size(8*21) + size(8*70)},
		{block[:32], fill(bound) + fill(c) + size(32) + size(80)},
		{block[:32], fill(c) + fill(bound) + size(21) + size(70)},
		{block[:32], fill(bound) + fill(text) + size(21) + size(70)},
		{block[32:], fill(bound) + fill(c) + size(21) + size(70)},
		{later[:32], fill(bound) + fill(c) + size(21) + size(70)},
		{key, fill(bound) + fill(c) + size(21) + size(70)},
	} {
		tag, e := poly.Mac(x.key, x.told)
		if e != api.OK {
			t.Fatal(e)
		}
		if got, e := Open(key, nonce, bound, c+tag); got != "" || e != api.ErrSeal {
			t.Errorf("the tag %d is taken: %d bytes, the error %d", i+1, len(got), e)
		}
	}
	tag, _ := poly.Mac(block[:32], fill(bound)+fill(c)+size(21)+size(70))
	opens(t, key, nonce, bound, c+tag, text)
}

// Ae3.

func TestWhatIsSealedIsOpenedAsItWas(t *testing.T) {
	for n := range 300 {
		key, nonce, bound, text := drawn(n + 32)[n:], drawn(n + 12)[n:], drawn(n%37), drawn(n)
		sealed := sealOf(t, key, nonce, bound, text)
		opens(t, key, nonce, bound, sealed, text)
		refuses(t, api.ErrSeal, key, nonce, bound+"a", sealed)
	}
	// Texts that are no UTF-8, or are a sealed text themselves.
	key, nonce := drawn(32), drawn(12)
	for _, text := range []string{"\x00", "\xff\xfe", "\x80é\xed\xa0\x80", strings.Repeat("\xff", 64), sealOf(t, key, nonce, "", "a")} {
		opens(t, key, nonce, text, sealOf(t, key, nonce, text, text), text)
	}
}

func TestUpToSixteenBytesInARowThatAreOthers(t *testing.T) {
	key, nonce := unhex(t, rfcKey), unhex(t, rfcNonce)
	for _, c := range [][2]int{{0, 0}, {0, 20}, {16, 0}, {33, 47}, {70, 130}} {
		bound, text := drawn(c[0]), drawn(c[1])
		sealed := sealOf(t, key, nonce, bound, text)
		for n := 1; n <= 16; n++ {
			for at := range len(sealed) - n + 1 {
				refuses(t, api.ErrSeal, key, nonce, bound, turnedAt(sealed, at, n))
			}
			for at := range max(len(bound)-n+1, 0) {
				refuses(t, api.ErrSeal, key, nonce, turnedAt(bound, at, n), sealed)
			}
		}
		opens(t, key, nonce, bound, sealed, text)
	}
}

// R3 and R4.

func TestAnswersHangOnArgumentsAlone(t *testing.T) {
	key, nonce, bound, text := drawn(32), drawn(12), drawn(40), drawn(200)
	sealed := sealOf(t, key, nonce, bound, text)
	for i := range 20 {
		Seal(drawn(i), nonce, bound, text)
		Seal(key, drawn(i), drawn(i), drawn(i))
		Open(key, nonce, drawn(i), sealed)
		Open(key, nonce, bound, turnedAt(sealed, i, 1))
		if again := sealOf(t, key, nonce, bound, text); again != sealed {
			t.Fatalf("the %d. time: %x", i+2, again)
		}
		opens(t, key, nonce, bound, sealed, text)
	}
	// Pieces of one longer text: nothing is read behind their ends.
	all := key + nonce + bound + text + sealed
	if got := sealOf(t, all[:32], all[32:44], all[44:84], all[84:284]); got != sealed {
		t.Errorf("%x", got)
	}
	opens(t, all[:32], all[32:44], all[44:84], all[284:], text)
	if all != key+nonce+bound+text+sealed {
		t.Error("an argument was changed")
	}
}
