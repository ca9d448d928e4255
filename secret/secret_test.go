package secret_test

import (
	"crypto/sha256"
	"encoding/hex"
	"math"
	"math/rand"
	"testing"

	"remitter/api"
	"remitter/secret"
)

// all is how many numbers there are: 0 up to 65535.
const all = 65536

// noNumbers are those that no secret has, next to those that it may have and far from them.
// Many have the low bits of a number.
var noNumbers = []int{
	math.MinInt, math.MinInt + 1, -1 << 32, -all - 1, -all, -all + 8, -8, -4, -2, -1,
	all, all + 1, all + 8, 2*all - 1, 2 * all, 1 << 30, 1 << 32, 1<<32 + 8, math.MaxInt - 7, math.MaxInt,
}

// edges are numbers at which a place, or what can be told, changes, and those next to them.
func edges() []int {
	l := []int{0}
	for b := range 16 {
		l = append(l, 1<<b-1, 1<<b, 1<<b+1, 3<<b&(all-1), all-1<<b, all-1-1<<b)
	}
	return append(l, 0x5555, 0xaaaa, 65533)
}

// anyHash makes a hash of bytes of every kind.
func anyHash(r *rand.Rand) api.Hash {
	var h api.Hash
	r.Read(h[:])
	return h
}

// hexOf tells a hash as the tables have it.
func hexOf(h api.Hash) string { return hex.EncodeToString(h[:]) }

// filled is a hash with the byte b at each place.
func filled(b byte) api.Hash {
	var h api.Hash
	for i := range h {
		h[i] = b
	}
	return h
}

// stairs is a hash with another byte at each place.
func stairs() api.Hash {
	var h api.Hash
	for i := range h {
		h[i] = byte(i)
	}
	return h
}

// trailing tells how many of the lowest bits of a number are 0, by divisions.
func trailing(i int) int {
	if i == 0 {
		return 16
	}
	n := 0
	for ; i%2 == 0; i /= 2 {
		n++
	}
	return n
}

// tells says whether from can tell to, both numbers: those that it can are from
// itself and all behind it that differ in the lowest bits alone.
func tells(from, to int) bool {
	return to >= from && to < from+1<<trailing(from)
}

// flippedSum is one step as another reckons it.
func flippedSum(h api.Hash, bit int) api.Hash {
	h[bit/8] ^= [8]byte{1, 2, 4, 8, 16, 32, 64, 128}[bit%8]
	return sha256.Sum256(h[:])
}

// tree tells all secrets of a seed as another reckons them: the lowest bit of a
// number is the last one, so that each stands on the number without it.
func tree(seed api.Hash) []api.Hash {
	l := make([]api.Hash, all)
	l[0] = seed
	for i := 1; i < all; i++ {
		low := trailing(i)
		l[i] = flippedSum(l[i-1<<low], low)
	}
	return l
}

// P4.1

// The first one was published by others; the rest are reckoned elsewhere.
func TestMakeOfWhatIsKnown(t *testing.T) {
	for _, x := range []struct {
		seed api.Hash
		i    int
		want string
	}{
		{filled(1), 1, "915c75942a26bb3a433a8ce2cb0427c29ec6c1775cfc78328b57f6ba7bfeaa9c"},
		{filled(0), 1, "01d0fabd251fcbbe2b93b4b927b26ad2a1a99077152e45ded1e678afa45dbec5"},
		{filled(0), 65535, "657a032331bc9070ec1174c4a5f877a68d8dc7bade4c6a39b580dfc4aec09e44"},
		{filled(255), 0x5555, "aa7058b29b4649c60790c66e2174880117cbff2b98404a8e5d1b4014418f286f"},
		{filled(255), 0xaaaa, "948f41cfc8119138b5764fc188ba5fa45d508c9a9e79b6deb8950dc9904caf03"},
		{stairs(), 0, "000102030405060708090a0b0c0d0e0f101112131415161718191a1b1c1d1e1f"},
		{stairs(), 1, "cac2f595781630e4e929c6f9d5ab3986c861d731b4c6cb868380353c48e80d61"},
		{stairs(), 2, "971b2f74a39ea1bfd5428bc43001c10cf4e66869879118888d4a3ae1b90efeeb"},
		{stairs(), 3, "69ce7244675a31a74de38aa5c76e1f007809f0cd605aa19958cd7f7e4519b1a1"},
		{stairs(), 128, "bb15bb72651e9ba3c8821b0040ec0c9ae28b6c38077007a3901c3a72c7d3b4aa"},
		{stairs(), 255, "3c539b95cb3b65a8486ff2c64f646c39d3a17034ae0dcb676ad35ab657548697"},
		{stairs(), 256, "179676e41fba0e6e1fecd0f6835cc280f83fb57d3582e4572c3a1ebd4e13fd87"},
		{stairs(), 32768, "22a18821cc404cc56a5fb9901a567d2d27e1cb5d4d49878c1a3df736a14af3d7"},
		{stairs(), 65534, "f3af2fdf73f57046856e42434fd36ffa133959b55e1f5fed720a7a01b4cee483"},
		{stairs(), 65535, "30a2d248b933998d97c767e779049e49804b4b9c72ff435f6ae9c76521d56152"},
	} {
		if h, e := secret.Make(x.seed, x.i); hexOf(h) != x.want || e != api.OK {
			t.Errorf("Make(%x, %d): %x %d, not %s", x.seed, x.i, h, e, x.want)
		}
	}
}

func TestMakeOf0IsTheSeed(t *testing.T) {
	r := rand.New(rand.NewSource(41))
	for _, seed := range []api.Hash{{}, filled(255), stairs(), anyHash(r)} {
		if h, e := secret.Make(seed, 0); h != seed || e != api.OK {
			t.Errorf("%x: %x %d", seed, h, e)
		}
	}
}

func TestMakeOfOneBit(t *testing.T) {
	seed := stairs()
	for b := range 16 {
		if h, e := secret.Make(seed, 1<<b); h != flippedSum(seed, b) || e != api.OK {
			t.Errorf("the bit %d: %x %d", b, h, e)
		}
	}
}

// The bits go from the highest one down.
func TestMakeOfTwoBits(t *testing.T) {
	seed := stairs()
	for high := range 16 {
		for low := range high {
			want := flippedSum(flippedSum(seed, high), low)
			if h, e := secret.Make(seed, 1<<high+1<<low); h != want || e != api.OK {
				t.Errorf("the bits %d, %d: %x %d", high, low, h, e)
			}
		}
	}
}

func TestMakeOfEachNumber(t *testing.T) {
	for i, want := range tree(stairs()) {
		if h, e := secret.Make(stairs(), i); h != want || e != api.OK {
			t.Fatalf("%d: %x %d, not %x", i, h, e, want)
		}
	}
}

func TestMakeOfNoNumber(t *testing.T) {
	for _, i := range noNumbers {
		for _, seed := range []api.Hash{{}, stairs()} {
			if h, e := secret.Make(seed, i); h != (api.Hash{}) || e != api.ErrArg {
				t.Errorf("Make(%x, %d): %x %d", seed, i, h, e)
			}
		}
	}
}

// R5: a secret hangs on the seed and the number alone, however often and between whatever else it is asked for.
func TestMakeIsTheSameEachTime(t *testing.T) {
	r := rand.New(rand.NewSource(42))
	seed := stairs()
	first, _ := secret.Make(seed, 0x1234)
	for range 50 {
		secret.Make(anyHash(r), r.Intn(2*all)-all/2)
		if h, e := secret.Make(seed, 0x1234); h != first || e != api.OK {
			t.Fatalf("%x, and then %x %d", first, h, e)
		}
	}
	if seed != stairs() {
		t.Errorf("what was handed in is %x now", seed)
	}
}

// P4.2

func TestPlace(t *testing.T) {
	for _, x := range [][2]int{
		{0, 16}, {1, 0}, {2, 1}, {3, 0}, {4, 2}, {6, 1}, {8, 3}, {12, 2}, {128, 7}, {255, 0}, {256, 8},
		{0x5555, 0}, {0xaaaa, 1}, {16384, 14}, {32767, 0}, {32768, 15}, {49152, 14}, {65534, 1}, {65535, 0},
	} {
		if p := secret.Place(x[0]); p != x[1] {
			t.Errorf("Place(%d): %d, not %d", x[0], p, x[1])
		}
	}
}

func TestPlaceOfEachNumber(t *testing.T) {
	for i := range all {
		if p := secret.Place(i); p != trailing(i) {
			t.Fatalf("Place(%d): %d, not %d", i, p, trailing(i))
		}
	}
}

func TestPlaceOfNoNumber(t *testing.T) {
	for _, i := range noNumbers {
		if p := secret.Place(i); p != 0 {
			t.Errorf("Place(%d): %d", i, p)
		}
	}
}

func TestCan(t *testing.T) {
	for _, x := range []struct {
		from, to int
		want     bool
	}{
		{8, 8, true}, {8, 11, true}, {8, 15, true},
		{8, 16, false}, {8, 7, false}, {8, 0, false}, {8, 24, false}, {8, 8 + 32768, false},
		{9, 8, false}, {9, 9, true}, {9, 10, false},
		{12, 15, true}, {12, 11, false}, {12, 16, false},
		{0, 0, true}, {0, 1, true}, {0, 32768, true}, {0, 65535, true}, {0, 65536, false}, {0, -1, false},
		{32768, 65535, true}, {32768, 32767, false}, {32768, 65536, false},
		{65535, 65535, true}, {65535, 65534, false}, {65534, 65535, true}, {65534, 65536, false},
	} {
		if is := secret.Can(x.from, x.to); is != x.want {
			t.Errorf("Can(%d, %d): %t", x.from, x.to, is)
		}
	}
}

// Of each number, both ends of what it can tell, and those next to them.
func TestCanAtTheEndsOfEachNumber(t *testing.T) {
	for from := range all {
		behind := from + 1<<trailing(from)
		for _, to := range []int{0, from - 1, from, from + 1, behind - 1, behind, behind + 1, from ^ 1, all - 1} {
			want := to >= 0 && to < all && tells(from, to)
			if is := secret.Can(from, to); is != want {
				t.Fatalf("Can(%d, %d): %t", from, to, is)
			}
		}
	}
}

func TestCanOfAllPairsOfEdges(t *testing.T) {
	for _, from := range edges() {
		for _, to := range edges() {
			if is := secret.Can(from, to); is != tells(from, to) {
				t.Errorf("Can(%d, %d): %t", from, to, is)
			}
		}
	}
}

func TestCanOfNoNumber(t *testing.T) {
	for _, i := range noNumbers {
		for _, j := range append(edges(), noNumbers...) {
			if secret.Can(i, j) || secret.Can(j, i) {
				t.Errorf("Can of %d and %d: %t, and %t", i, j, secret.Can(i, j), secret.Can(j, i))
			}
		}
	}
}

// P4.3

// What is derived of any secret, also of one that nobody made: step by step, by the words of the promise.
func TestDeriveByItsWords(t *testing.T) {
	r := rand.New(rand.NewSource(43))
	for _, from := range edges() {
		for _, to := range edges() {
			if !tells(from, to) {
				continue
			}
			s := anyHash(r)
			want := s
			for b := trailing(from) - 1; b >= 0; b-- {
				if to&(1<<b) != 0 {
					want = flippedSum(want, b)
				}
			}
			if h, e := secret.Derive(s, from, to); h != want || e != api.OK {
				t.Errorf("Derive(%x, %d, %d): %x %d, not %x", s, from, to, h, e, want)
			}
		}
	}
}

// No bit from Place on counts: that of from itself is none of the steps.
func TestDeriveOfItselfIsTheSecret(t *testing.T) {
	s := stairs()
	for i := range all {
		if h, e := secret.Derive(s, i, i); h != s || e != api.OK {
			t.Fatalf("%d: %x %d", i, h, e)
		}
	}
}

func TestDeriveOfWhatItCanNot(t *testing.T) {
	for _, x := range [][2]int{{8, 16}, {8, 7}, {9, 8}, {65535, 65534}, {32768, 32767}, {1, 0}, {-1, -1}, {65536, 65536}, {0, 65536}, {0, -1}} {
		if h, e := secret.Derive(stairs(), x[0], x[1]); h != (api.Hash{}) || e != api.ErrArg {
			t.Errorf("Derive(.., %d, %d): %x %d", x[0], x[1], h, e)
		}
	}
	for _, from := range edges() {
		for _, to := range edges() {
			if tells(from, to) {
				continue
			}
			if h, e := secret.Derive(stairs(), from, to); h != (api.Hash{}) || e != api.ErrArg {
				t.Errorf("Derive(.., %d, %d): %x %d", from, to, h, e)
			}
		}
		for _, i := range noNumbers {
			for _, x := range [][2]int{{from, i}, {i, from}, {i, i}} {
				if h, e := secret.Derive(stairs(), x[0], x[1]); h != (api.Hash{}) || e != api.ErrArg {
					t.Errorf("Derive(.., %d, %d): %x %d", x[0], x[1], h, e)
				}
			}
		}
	}
}

// P4.4

// made tells a secret that there has to be.
func made(t *testing.T, seed api.Hash, i int) api.Hash {
	t.Helper()
	h, e := secret.Make(seed, i)
	if e != api.OK {
		t.Fatalf("Make(%x, %d): %d", seed, i, e)
	}
	return h
}

func TestDerivedIsWhatIsMade(t *testing.T) {
	r := rand.New(rand.NewSource(44))
	for _, seed := range []api.Hash{{}, stairs(), anyHash(r)} {
		for _, from := range edges() {
			s := made(t, seed, from)
			last := from + 1<<trailing(from) - 1
			for _, to := range []int{from, last, from + r.Intn(last-from+1), from + r.Intn(last-from+1)} {
				if h, e := secret.Derive(s, from, to); h != made(t, seed, to) || e != api.OK {
					t.Errorf("of the seed %x, from %d to %d: %x %d", seed, from, to, h, e)
				}
			}
		}
	}
}

// All that one secret can tell: 256 of them.
func TestDerivedOfOneForMany(t *testing.T) {
	const from = 0x4700
	seed := stairs()
	s := made(t, seed, from)
	for to := from; to < from+256; to++ {
		if h, e := secret.Derive(s, from, to); h != made(t, seed, to) || e != api.OK {
			t.Errorf("%d: %x %d", to, h, e)
		}
	}
}

// What is derived can be derived of, and it makes no difference on how many ways.
func TestDerivedOfWhatIsDerived(t *testing.T) {
	r := rand.New(rand.NewSource(45))
	for range 300 {
		seed := anyHash(r)
		from, s := 0, seed
		for secret.Place(from) > 0 {
			to := from + r.Intn(1<<secret.Place(from))
			h, e := secret.Derive(s, from, to)
			if h != made(t, seed, to) || e != api.OK {
				t.Fatalf("of the seed %x, from %d to %d: %x %d", seed, from, to, h, e)
			}
			from, s = to, h
		}
	}
}

// A secret of another seed tells others.
func TestDerivedOfAnotherSeed(t *testing.T) {
	r := rand.New(rand.NewSource(46))
	for range 50 {
		from := r.Intn(all)
		to := from + r.Intn(1<<trailing(from))
		h, e := secret.Derive(made(t, anyHash(r), from), from, to)
		if h == made(t, anyHash(r), to) || e != api.OK {
			t.Errorf("from %d to %d: %x %d", from, to, h, e)
		}
	}
}
