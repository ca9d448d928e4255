package digest_test

import (
	"crypto/sha256"
	"encoding/hex"
	"math/rand"
	"strings"
	"testing"

	"remitter/api"
	"remitter/digest"
)

// start are the words H0.
var start = [8]uint32{
	0x6a09e667, 0xbb67ae85, 0x3c6ef372, 0xa54ff53a, 0x510e527f, 0x9b05688c, 0x1f83d9ab, 0x5be0cd19,
}

// blockEdges are lengths at which the padding or the count of blocks changes, and those next to them.
var blockEdges = []int{0, 1, 31, 32, 54, 55, 56, 57, 62, 63, 64, 65, 118, 119, 120, 121, 127, 128, 129, 183, 184, 191, 192, 193}

// known are texts with the sums that others published.
var known = []struct {
	s, sum string
}{
	{"", "e3b0c44298fc1c149afbf4c8996fb92427ae41e4649b934ca495991b7852b855"},
	{"abc", "ba7816bf8f01cfea414140de5dae2223b00361a396177a9cb410ff61f20015ad"},
	{"\xbd", "68325720aabd7c82f30f554b313d0570c95accbb7dc4b5aae11204c08ffe732b"},
	{"abcdbcdecdefdefgefghfghighijhijkijkljklmklmnlmnomnopnopq", "248d6a61d20638b8e5c026930c3e6039a33ce45964ff2167f6ecedd419db06c1"},
	{"abcdefghbcdefghicdefghijdefghijkefghijklfghijklmghijklmnhijklmnoijklmnopjklmnopqklmnopqrlmnopqrsmnopqrstnopqrstu", "cf5b16a778af8380036ce59e7b0492370b249b11e8f07a51afac45037afee9d1"},
	{strings.Repeat("\x00", 1000), "541b3e9daa09b20bf85fa273e5cbd3e80185aa4ec298e765db87742b70138a53"},
	{strings.Repeat("a", 1000000), "cdc76e5c9914fb9281a1c7e284d73e67f1809a48a497200e046d39ccc7112cd0"},
}

// anyText makes a text of n bytes of every kind.
func anyText(r *rand.Rand, n int) string {
	b := make([]byte, n)
	r.Read(b)
	return string(b)
}

// stairs is a block with another byte at each place, so that an order that is lost is seen.
func stairs() string {
	b := make([]byte, 64)
	for i := range b {
		b[i] = byte(7*i + 1)
	}
	return string(b)
}

// allOnes are words that any sum wraps.
func allOnes() [8]uint32 {
	var h [8]uint32
	for i := range h {
		h[i] = 0xffffffff
	}
	return h
}

// hexOf tells a hash as the tables have it.
func hexOf(h api.Hash) string { return hex.EncodeToString(h[:]) }

// P2.1

func TestPadWhole(t *testing.T) {
	for _, x := range []struct {
		s, want string
	}{
		{"", "\x80" + strings.Repeat("\x00", 63)},
		{"abc", "abc\x80" + strings.Repeat("\x00", 59) + "\x18"},
		{strings.Repeat("\xff", 55), strings.Repeat("\xff", 55) + "\x80" + strings.Repeat("\x00", 6) + "\x01\xb8"},
		{strings.Repeat("\xff", 56), strings.Repeat("\xff", 56) + "\x80" + strings.Repeat("\x00", 69) + "\x01\xc0"},
		{strings.Repeat("b", 63), strings.Repeat("b", 63) + "\x80" + strings.Repeat("\x00", 62) + "\x01\xf8"},
		{strings.Repeat("b", 64), strings.Repeat("b", 64) + "\x80" + strings.Repeat("\x00", 61) + "\x02\x00"},
		{strings.Repeat("c", 8192), strings.Repeat("c", 8192) + "\x80" + strings.Repeat("\x00", 60) + "\x01\x00\x00"},
	} {
		if p := digest.Pad(x.s); p != x.want {
			t.Errorf("Pad of %d bytes: %q", len(x.s), p)
		}
	}
}

func TestPadHasAsFewZerosAsItMay(t *testing.T) {
	r := rand.New(rand.NewSource(21))
	for n := range 400 {
		s := anyText(r, n)
		p := digest.Pad(s)
		if !strings.HasPrefix(p, s+"\x80") || len(p)%64 != 0 {
			t.Fatalf("Pad of %d bytes: %q", n, p)
		}
		zeros := len(p) - n - 1 - 8
		if zeros < 0 || zeros > 63 || p[n+1:n+1+zeros] != strings.Repeat("\x00", zeros) {
			t.Fatalf("Pad of %d bytes: %d zeros, %q", n, zeros, p)
		}
		length := 0
		for _, b := range []byte(p[len(p)-8:]) {
			length = length<<8 | int(b)
		}
		if length != 8*n {
			t.Fatalf("Pad of %d bytes tells a length of %d", n, length)
		}
	}
}

// Eight bytes tell the length: here more than two of them are needed.
func TestPadOfManyBytes(t *testing.T) {
	n := 1<<21 + 3
	p := digest.Pad(strings.Repeat("x", n))
	if len(p) != n+61 || p[len(p)-8:] != "\x00\x00\x00\x00\x01\x00\x00\x18" {
		t.Errorf("%d %q", len(p), p[len(p)-8:])
	}
}

// P2.2

func TestCompress(t *testing.T) {
	for _, x := range []struct {
		h     [8]uint32
		block string
		want  [8]uint32
	}{
		{
			start, digest.Pad("abc"),
			[8]uint32{0xba7816bf, 0x8f01cfea, 0x414140de, 0x5dae2223, 0xb00361a3, 0x96177a9c, 0xb410ff61, 0xf20015ad},
		},
		{
			start, digest.Pad(""),
			[8]uint32{0xe3b0c442, 0x98fc1c14, 0x9afbf4c8, 0x996fb924, 0x27ae41e4, 0x649b934c, 0xa495991b, 0x7852b855},
		},
		{
			[8]uint32{}, strings.Repeat("\x00", 64),
			[8]uint32{0x7ca51614, 0x425c3ba8, 0xce54dd2f, 0xc2020ae7, 0xb6e574d1, 0x98136d0f, 0xae7e26cc, 0xbf0be7a6},
		},
		{
			[8]uint32{1, 2, 3, 4, 5, 6, 7, 8}, stairs(),
			[8]uint32{0x48e6d0c7, 0x70a2cb48, 0x5302eb09, 0x930c9f7b, 0xa4bdd92e, 0xc5ce5f94, 0xf058bd1c, 0x16748abb},
		},
		{
			allOnes(), strings.Repeat("\xff", 64),
			[8]uint32{0x0598127a, 0xaf11706e, 0x77401fff, 0xd730c549, 0x0b84c867, 0xa98c6ca3, 0xd7f3c0f9, 0x06a78b79},
		},
	} {
		h := x.h
		if got, is := digest.Compress(h, x.block); !is || got != x.want {
			t.Errorf("Compress(%x, %q): %x %t", x.h, x.block, got, is)
		}
		if h != x.h {
			t.Errorf("what was handed in is %x now", h)
		}
	}
}

func TestCompressOfNoBlock(t *testing.T) {
	h := [8]uint32{1, 2, 3, 4, 5, 6, 7, 0xffffffff}
	for n := range 300 {
		got, is := digest.Compress(h, strings.Repeat("\x80", n))
		if n == 64 {
			if !is || got == h {
				t.Errorf("a block: %x %t", got, is)
			}
		} else if is || got != h {
			t.Errorf("%d bytes: %x %t", n, got, is)
		}
	}
	if got, is := digest.Compress([8]uint32{}, ""); is || got != [8]uint32{} {
		t.Errorf("nothing at all: %x %t", got, is)
	}
}

// P2.3

func TestSumOfWhatIsKnown(t *testing.T) {
	for _, x := range known {
		if got := hexOf(digest.Sum(x.s)); got != x.sum {
			t.Errorf("Sum of %d bytes: %s, not %s", len(x.s), got, x.sum)
		}
	}
}

func TestSumAsAnotherReckonsIt(t *testing.T) {
	r := rand.New(rand.NewSource(23))
	for n := range 400 {
		s := anyText(r, n)
		if got, want := digest.Sum(s), api.Hash(sha256.Sum256([]byte(s))); got != want {
			t.Errorf("Sum(%q): %x, not %x", s, got, want)
		}
	}
	for range 20 {
		s := anyText(r, 400+r.Intn(3000))
		if got, want := digest.Sum(s), api.Hash(sha256.Sum256([]byte(s))); got != want {
			t.Errorf("Sum(%q): %x, not %x", s, got, want)
		}
	}
}

// What follows from P2.1 to P2.3: a sum may be told by Pad and Compress.
func TestSumIsCompressOfEachBlockOfPad(t *testing.T) {
	r := rand.New(rand.NewSource(24))
	for _, n := range blockEdges {
		s := anyText(r, n)
		h := start
		for p := digest.Pad(s); p != ""; p = p[64:] {
			next, is := digest.Compress(h, p[:64])
			if !is {
				t.Fatalf("%d bytes: a block was refused", n)
			}
			h = next
		}
		var want api.Hash
		for i, x := range h {
			for j := range 4 {
				want[4*i+j] = byte(x >> (24 - 8*j))
			}
		}
		if got := digest.Sum(s); got != want {
			t.Errorf("Sum of %d bytes: %x, not %x", n, got, want)
		}
	}
}

// P2.4

func TestStreamAtFirst(t *testing.T) {
	d := &digest.Stream{}
	for range 2 {
		if got := hexOf(d.Sum()); got != known[0].sum {
			t.Error(got)
		}
	}
	d.Write("")
	if got := hexOf(d.Sum()); got != known[0].sum {
		t.Error("behind no bytes:", got)
	}
	d.Write("abc")
	if got := hexOf(d.Sum()); got != known[1].sum {
		t.Error("abc behind no bytes:", got)
	}
}

func TestStreamOfOnePart(t *testing.T) {
	for _, x := range known {
		d := &digest.Stream{}
		d.Write(x.s)
		if got := hexOf(d.Sum()); got != x.sum {
			t.Errorf("%d bytes at once: %s", len(x.s), got)
		}
	}
}

func TestStreamOfTwoPartsCutAnywhere(t *testing.T) {
	r := rand.New(rand.NewSource(25))
	for _, n := range blockEdges {
		s := anyText(r, n)
		want := digest.Sum(s)
		for cut := range n + 1 {
			d := &digest.Stream{}
			d.Write(s[:cut])
			if got := d.Sum(); got != digest.Sum(s[:cut]) {
				t.Fatalf("the first %d of %d bytes: %x", cut, n, got)
			}
			d.Write(s[cut:])
			if got := d.Sum(); got != want {
				t.Fatalf("%d bytes cut at %d: %x", n, cut, got)
			}
		}
	}
}

// What follows: however it is cut, and asked in between or not, a stream tells the Sum of all that came.
func TestStreamHoweverItIsCut(t *testing.T) {
	r := rand.New(rand.NewSource(26))
	for range 300 {
		d := &digest.Stream{}
		came := ""
		for range r.Intn(12) {
			part := anyText(r, r.Intn(1+r.Intn(300)))
			d.Write(part)
			came += part
			if r.Intn(2) == 0 && (d.Sum() != digest.Sum(came) || d.Sum() != digest.Sum(came)) {
				t.Fatalf("a stream of %q: %x", came, d.Sum())
			}
		}
		if got := d.Sum(); got != digest.Sum(came) {
			t.Fatalf("a stream of %q: %x", came, got)
		}
	}
}

func TestStreamsKeepApart(t *testing.T) {
	one, other := &digest.Stream{}, &digest.Stream{}
	one.Write("ab")
	other.Write("no")
	one.Write("c")
	if got := hexOf(one.Sum()); got != known[1].sum {
		t.Error(got)
	}
	if other.Sum() != digest.Sum("no") {
		t.Errorf("%x", other.Sum())
	}
}

// R1: no call panics. A nil stream has had no bytes, and takes none.
func TestStreamThatIsNil(t *testing.T) {
	var d *digest.Stream
	d.Write("abc")
	d.Write("")
	if got := hexOf(d.Sum()); got != known[0].sum {
		t.Error(got)
	}
}
