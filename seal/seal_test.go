package seal_test

import (
	"crypto/hmac"
	"crypto/sha256"
	"encoding/hex"
	"math/rand"
	"strings"
	"testing"

	"remitter/api"
	"remitter/digest"
	"remitter/seal"
)

// keyEdges are lengths at which a key is filled otherwise, and those next to them.
var keyEdges = []int{0, 1, 2, 31, 32, 33, 62, 63, 64, 65, 66, 127, 128, 129, 3000}

// textEdges are lengths at which the blocks of what is summed change, and those next to them.
var textEdges = []int{0, 1, 31, 32, 54, 55, 56, 57, 63, 64, 65, 119, 120, 128, 3000}

// known are keys and texts with the tags that others published.
var known = []struct {
	key, s, tag string
}{
	{"", "", "b613679a0814d9ec772f95d778c35fc5ff1697c493715653c6c712144292c5ad"},
	{"key", "The quick brown fox jumps over the lazy dog", "f7bc83f430538424b13298e6aa6fb143ef4d59a14946175997479dbc2d1a3cd8"},
	{strings.Repeat("\x0b", 20), "Hi There", "b0344c61d8db38535ca8afceaf0bf12b881dc200c9833da726e9376c2e32cff7"},
	{"Jefe", "what do ya want for nothing?", "5bdcc146bf60754e6a042426089575c75a003f089d2739839dec58b964ec3843"},
	{strings.Repeat("\xaa", 20), strings.Repeat("\xdd", 50), "773ea91e36800e46854db8ebd09181a72959098b3ef8c122d9635514ced565fe"},
	{
		"\x01\x02\x03\x04\x05\x06\x07\x08\x09\x0a\x0b\x0c\x0d\x0e\x0f\x10\x11\x12\x13\x14\x15\x16\x17\x18\x19", strings.Repeat("\xcd", 50),
		"82558a389a443c0ea4cc819899f2083a85f0faa3e578f8077a2e3ff46729665b",
	},
	{
		strings.Repeat("\xaa", 131), "Test Using Larger Than Block-Size Key - Hash Key First",
		"60e431591ee0b67f0d8a26aacbf5b77f8e0bc6213728c5140546040f0ee37f54",
	},
	{
		strings.Repeat("\xaa", 131), "This is a test using a larger than block-size key and a larger than block-size data. The key needs to be hashed before being used by the HMAC algorithm.",
		"9b09ffa71b942fcb27635fbcd5b0e944bfdc63644f0713938a7f51535c3a35e2",
	},
}

// anyText makes a text of n bytes of every kind.
func anyText(r *rand.Rand, n int) string {
	b := make([]byte, n)
	r.Read(b)
	return string(b)
}

// anyHash makes a hash of bytes of every kind.
func anyHash(r *rand.Rand) api.Hash {
	var h api.Hash
	r.Read(h[:])
	return h
}

// turned tells h with one of its bits turned.
func turned(h api.Hash, bit int) api.Hash {
	h[bit/8] ^= 1 << (bit % 8)
	return h
}

// hmacOf tells the tag as another reckons it.
func hmacOf(key, s string) api.Hash {
	m := hmac.New(sha256.New, []byte(key))
	m.Write([]byte(s))
	return api.Hash(m.Sum(nil))
}

// hexOf tells a hash as the tables have it.
func hexOf(h api.Hash) string { return hex.EncodeToString(h[:]) }

// P3.1

func TestTagOfWhatIsKnown(t *testing.T) {
	for _, x := range known {
		if got := hexOf(seal.Tag(x.key, x.s)); got != x.tag {
			t.Errorf("Tag(%q, %q): %s, not %s", x.key, x.s, got, x.tag)
		}
	}
}

func TestTagAsAnotherReckonsIt(t *testing.T) {
	r := rand.New(rand.NewSource(31))
	for _, n := range keyEdges {
		for _, m := range textEdges {
			key, s := anyText(r, n), anyText(r, m)
			if got, want := seal.Tag(key, s), hmacOf(key, s); got != want {
				t.Errorf("a key of %d bytes, a text of %d: %x, not %x", n, m, got, want)
			}
		}
	}
	for n := range 200 {
		key, s := anyText(r, n), anyText(r, r.Intn(300))
		if got, want := seal.Tag(key, s), hmacOf(key, s); got != want {
			t.Errorf("Tag(%q, %q): %x, not %x", key, s, got, want)
		}
	}
}

// The same, by the words of the promise: what is summed is laid out whole.
func TestTagIsSumOfTheKeyAndASum(t *testing.T) {
	const (
		by92 = "\x3d\x3e" // "ab", each byte exclusively or'd with 92
		by54 = "\x57\x54" // "ab", each byte exclusively or'd with 54
	)
	inner := digest.Sum(by54 + strings.Repeat("\x36", 62) + "text")
	want := digest.Sum(by92 + strings.Repeat("\x5c", 62) + string(inner[:]))
	if got := seal.Tag("ab", "text"); got != want {
		t.Errorf("%x, not %x", got, want)
	}
}

func TestKeyUpToItsLengthHasBytes0Behind(t *testing.T) {
	r := rand.New(rand.NewSource(32))
	for n := range 65 {
		key, s := anyText(r, n), anyText(r, r.Intn(100))
		want := seal.Tag(key, s)
		for zeros := range 64 - n + 1 {
			if got := seal.Tag(key+strings.Repeat("\x00", zeros), s); got != want {
				t.Errorf("%d bytes and %d bytes 0: %x, not %x", n, zeros, got, want)
			}
		}
		longer := key + strings.Repeat("\x00", 65-n)
		if got := seal.Tag(longer, s); got == want {
			t.Errorf("%d bytes and bytes 0 up to 65: %x too", n, got)
		}
	}
}

func TestLongKeyIsItsSum(t *testing.T) {
	r := rand.New(rand.NewSource(33))
	for _, n := range []int{64, 65, 66, 100, 128, 129, 3000} {
		key, s := anyText(r, n), anyText(r, 40)
		sum := digest.Sum(key)
		same := seal.Tag(key, s) == seal.Tag(string(sum[:]), s)
		if same != (n > 64) {
			t.Errorf("a key of %d bytes is as its sum: %t", n, same)
		}
	}
}

// Each byte of a key, and its place, counts: also the last one of a full key, and of a long one.
func TestEachByteOfAKeyCounts(t *testing.T) {
	r := rand.New(rand.NewSource(34))
	for _, n := range []int{1, 2, 32, 63, 64, 65, 130} {
		key := anyText(r, n)
		tag := seal.Tag(key, "text")
		for i := range n {
			for bit := range 8 {
				other := key[:i] + string([]byte{key[i] ^ 1<<bit}) + key[i+1:]
				if seal.Tag(other, "text") == tag {
					t.Fatalf("of a key of %d bytes the bit %d of byte %d counts nothing", n, bit, i)
				}
			}
		}
	}
}

// Where the key ends is told: its bytes are none of the text's.
func TestKeyAndTextKeepApart(t *testing.T) {
	for _, x := range [][4]string{
		{"ab", "c", "a", "bc"},
		{"", "abc", "abc", ""},
		{"a", "b", "b", "a"},
		{"a", "\x00b", "a\x00", "b"},
	} {
		if seal.Tag(x[0], x[1]) == seal.Tag(x[2], x[3]) {
			t.Errorf("%q: one tag", x)
		}
	}
}

func TestRightOfTheTag(t *testing.T) {
	for _, x := range known {
		b, err := hex.DecodeString(x.tag)
		if err != nil {
			t.Fatal(err)
		}
		if !seal.Right(x.key, x.s, api.Hash(b)) {
			t.Errorf("Right(%q, %q, %s) is false", x.key, x.s, x.tag)
		}
	}
	r := rand.New(rand.NewSource(35))
	for _, n := range keyEdges {
		key, s := anyText(r, n), anyText(r, r.Intn(200))
		if !seal.Right(key, s, hmacOf(key, s)) {
			t.Errorf("Right(%q, %q) is false", key, s)
		}
	}
}

func TestRightOfAnotherTag(t *testing.T) {
	r := rand.New(rand.NewSource(36))
	for _, n := range keyEdges {
		key, s := anyText(r, n), anyText(r, 20)
		tag := seal.Tag(key, s)
		for bit := range 256 {
			if seal.Right(key, s, turned(tag, bit)) {
				t.Fatalf("the bit %d of the tag by %q counts nothing", bit, key)
			}
		}
		bare := digest.Sum(key + s)
		for _, other := range []api.Hash{{}, bare, seal.Tag(s, key), seal.Tag(key, s+"\x00"), seal.Tag(key, s[1:])} {
			if seal.Right(key, s, other) {
				t.Errorf("Right(%q, %q, %x) is true", key, s, other)
			}
		}
	}
}

func TestRightOfAnotherKeyOrText(t *testing.T) {
	const key, s = "key", "text"
	tag := seal.Tag(key, s)
	for _, other := range []string{"", "ke", "Key", "key!", "\x00key", "text", key + strings.Repeat("\x00", 62)} {
		if seal.Right(other, s, tag) {
			t.Errorf("by the key %q too", other)
		}
	}
	for _, other := range []string{"", "tex", "Text", "text!", "text\x00", "\x00text", "key"} {
		if seal.Right(key, other, tag) {
			t.Errorf("of the text %q too", other)
		}
	}
	// Bytes 0 up to 64 are behind the key anyway.
	if !seal.Right(key+strings.Repeat("\x00", 61), s, tag) {
		t.Error("not by the same key, filled")
	}
}

// R5: a tag hangs on the key and the text alone, however often and between whatever else it is asked for.
func TestTagIsTheSameEachTime(t *testing.T) {
	r := rand.New(rand.NewSource(37))
	first := seal.Tag("key", "text")
	for range 50 {
		seal.Tag(anyText(r, r.Intn(130)), anyText(r, r.Intn(130)))
		if got := seal.Tag("key", "text"); got != first {
			t.Fatalf("%x, and then %x", first, got)
		}
	}
}

// P3.2

func TestOfWhatIsKnown(t *testing.T) {
	var stairs api.Hash
	for i := range stairs {
		stairs[i] = byte(i)
	}
	for _, x := range []struct {
		preimage api.Hash
		hash     string
	}{
		{api.Hash{}, "66687aadf862bd776c8fc18b8e9f8e20089714856ee233b3902a591d0d5f2925"},
		{stairs, "630dcd2966c4336691125448bbb25b4ff412a49c732db2c8abc1b8581bd710dd"},
	} {
		if got := hexOf(seal.Of(x.preimage)); got != x.hash {
			t.Errorf("Of(%x): %s, not %s", x.preimage, got, x.hash)
		}
	}
}

func TestOfAsAnotherReckonsIt(t *testing.T) {
	r := rand.New(rand.NewSource(38))
	for range 200 {
		p := anyHash(r)
		before := p
		if got, want := seal.Of(p), api.Hash(sha256.Sum256(p[:])); got != want {
			t.Errorf("Of(%x): %x, not %x", p, got, want)
		}
		if got, want := seal.Of(p), digest.Sum(string(p[:])); got != want {
			t.Errorf("Of(%x): %x, not the Sum %x", p, got, want)
		}
		if p != before {
			t.Errorf("what was handed in is %x now", p)
		}
	}
}

func TestOpens(t *testing.T) {
	r := rand.New(rand.NewSource(39))
	preimages := []api.Hash{{}, {0: 1, 1: 2}, {31: 255}, anyHash(r), anyHash(r)}
	for _, p := range preimages {
		h := api.Hash(sha256.Sum256(p[:]))
		if !seal.Opens(p, h) {
			t.Errorf("%x does not open %x", p, h)
		}
		for bit := range 256 {
			if seal.Opens(turned(p, bit), h) {
				t.Fatalf("the bit %d of the preimage %x counts nothing", bit, p)
			}
			if seal.Opens(p, turned(h, bit)) {
				t.Fatalf("the bit %d of the hash %x counts nothing", bit, h)
			}
		}
	}
}

func TestOpensNothingElse(t *testing.T) {
	p := api.Hash{0: 1, 1: 2}
	h := seal.Of(p)
	for _, x := range [][2]api.Hash{
		{h, p},          // the wrong way round
		{p, p},          // a preimage is not its own hash
		{h, h},          // nor is a hash its own preimage
		{p, {}},         // no hash
		{{}, {}},        // no preimage of no hash
		{{}, h},         // no preimage
		{p, seal.Of(h)}, // one hash further
	} {
		if seal.Opens(x[0], x[1]) {
			t.Errorf("%x opens %x", x[0], x[1])
		}
	}
}
