package shelf_test

import (
	"crypto/sha256"
	"encoding/hex"
	"math"
	"math/rand"
	"testing"

	"remitter/api"
	"remitter/shelf"
)

// all is how many numbers there are: 0 up to 65535.
const all = 65536

// noNumbers are those that no secret has, next to those that it may have and far from them.
var noNumbers = []int{
	math.MinInt, -1 << 32, -all - 1, -all, -all + 8, -8, -2, -1,
	all, all + 1, all + 8, 2*all - 1, 2 * all, 1 << 30, 1 << 32, 1<<32 + 8, math.MaxInt,
}

// edges are numbers at which a place, or what can be told, changes, and those next to them.
func edges() []int {
	l := []int{0}
	for b := range 16 {
		l = append(l, 1<<b-1, 1<<b, 1<<b+1, 3<<b&(all-1), all-1<<b, all-1-1<<b)
	}
	return append(l, 0x5555, 0xaaaa, 65533)
}

// anyHash makes a hash of bytes of every kind.
func anyHash(r *rand.Rand) api.Hash {
	var h api.Hash
	r.Read(h[:])
	return h
}

// seed is one of those that the tests make secrets of.
func seed(n int) api.Hash { return api.Hash{byte(n), 7, 31: byte(n)} }

// trailing tells how many of the lowest bits of a number are 0, by divisions.
func trailing(i int) int {
	if i == 0 {
		return 16
	}
	n := 0
	for ; i%2 == 0; i /= 2 {
		n++
	}
	return n
}

// tells says whether from can tell to: from itself, and all behind it that differ in the lowest bits alone.
func tells(from, to int) bool {
	return to >= from && to < from+1<<trailing(from)
}

// stepped is what a secret becomes by the bits of to that are 1, of those below top.
func stepped(h api.Hash, to, top int) api.Hash {
	for b := top - 1; b >= 0; b-- {
		if to&(1<<b) != 0 {
			h[b/8] ^= [8]byte{1, 2, 4, 8, 16, 32, 64, 128}[b%8]
			h = sha256.Sum256(h[:])
		}
	}
	return h
}

// of is the secret i of the seed n.
func of(n, i int) api.Hash { return stepped(seed(n), i, 16) }

// tree tells all secrets of a seed: each stands on the number without its lowest bit 1.
func tree(n int) []api.Hash {
	l := make([]api.Hash, all)
	l[0] = seed(n)
	for i := 1; i < all; i++ {
		low := trailing(i)
		l[i] = stepped(l[i-1<<low], 1<<low, low+1)
	}
	return l
}

// insert puts a secret on the shelf that has to go.
func insert(t *testing.T, s *shelf.Shelf, i int, h api.Hash) {
	t.Helper()
	if e := s.Insert(i, h); e != api.OK {
		t.Fatalf("Insert(%d, %x): %d", i, h, e)
	}
}

// refuse puts a secret to the shelf that answers want, and changes nothing.
func refuse(t *testing.T, s *shelf.Shelf, i int, h api.Hash, want api.Errno) {
	t.Helper()
	was := *s
	if e := s.Insert(i, h); e != want {
		t.Errorf("Insert(%d, %x): %d, not %d", i, h, e, want)
	}
	if *s != was {
		t.Errorf("Insert(%d, %x) was refused, and changed the shelf", i, h)
	}
}

// found asks that the secret i is told, and is want.
func found(t *testing.T, s *shelf.Shelf, i int, want api.Hash) {
	t.Helper()
	if h, e := s.Lookup(i); h != want || e != api.OK {
		t.Errorf("Lookup(%d): %x %d, not %x", i, h, e, want)
	}
}

// missed asks that the secret i is not told.
func missed(t *testing.T, s *shelf.Shelf, l ...int) {
	t.Helper()
	for _, i := range l {
		if h, e := s.Lookup(i); h != (api.Hash{}) || e != api.ErrNone {
			t.Errorf("Lookup(%d): %x %d", i, h, e)
		}
	}
}

// holds asks how many secrets there are, and what the least number is.
func holds(t *testing.T, s *shelf.Shelf, many, least int) {
	t.Helper()
	if n := s.Len(); n != many {
		t.Errorf("Len: %d, not %d", n, many)
	}
	if i, is := s.Least(); i != least || is != (many > 0) {
		t.Errorf("Least: %d %t, not %d", i, is, least)
	}
}

// placed is what stands at a place, by another reckoning.
type placed struct {
	number int
	secret api.Hash
}

// model is a shelf by the words of the promises: what stands, by its place.
type model map[int]placed

func (m model) insert(i int, h api.Hash) api.Errno {
	if i < 0 || i >= all {
		return api.ErrArg
	}
	p := trailing(i)
	for q, x := range m {
		if q < p && tells(i, x.number) && stepped(h, x.number, p) != x.secret {
			return api.ErrSecret
		}
	}
	m[p] = placed{i, h}
	return api.OK
}

func (m model) lookup(i int) (api.Hash, api.Errno) {
	for q := range 17 {
		if x, is := m[q]; is && i >= 0 && i < all && tells(x.number, i) {
			return stepped(x.secret, i, q), api.OK
		}
	}
	return api.Hash{}, api.ErrNone
}

func (m model) least() int {
	least := all
	for _, x := range m {
		least = min(least, x.number)
	}
	return least % all
}

// P5.1

func TestInsertAtEachPlace(t *testing.T) {
	s := &shelf.Shelf{}
	for p := range 17 {
		i := 65536 - 1<<p
		insert(t, s, i, of(1, i))
		holds(t, s, p+1, i)
	}
	for p := range 17 {
		found(t, s, 65536-1<<p, of(1, 65536-1<<p))
	}
}

func TestInsertOfNoNumber(t *testing.T) {
	empty, full := &shelf.Shelf{}, &shelf.Shelf{}
	for p := range 17 {
		insert(t, full, 65536-1<<p, of(1, 65536-1<<p))
	}
	for _, i := range noNumbers {
		for _, h := range []api.Hash{{}, seed(1), of(1, 65535)} {
			refuse(t, empty, i, h, api.ErrArg)
			refuse(t, full, i, h, api.ErrArg)
		}
	}
	holds(t, empty, 0, 0)
}

// A secret takes the place of the one that was there, whichever it was, and nobody asks that one.
func TestInsertInThePlaceOfAnother(t *testing.T) {
	for _, x := range []struct{ first, then int }{
		{65535, 65535}, {65535, 65533}, {1, 65535}, {65534, 65530}, {8, 24}, {24, 8}, {32768, 32768}, {0, 0},
	} {
		s := &shelf.Shelf{}
		insert(t, s, x.first, of(1, x.first))
		insert(t, s, x.then, of(2, x.then))
		holds(t, s, 1, x.then)
		found(t, s, x.then, of(2, x.then))
		if x.first != x.then {
			missed(t, s, x.first)
		}
	}
}

// What stands higher is not asked, even if it tells the one that comes.
func TestInsertBelowAnother(t *testing.T) {
	for high := 1; high <= 16; high++ {
		from := 65536 - 1<<high
		for low := range high {
			s := &shelf.Shelf{}
			i := from + 1<<low
			insert(t, s, from, of(1, from))
			insert(t, s, i, of(2, i))
			holds(t, s, 2, from)
			found(t, s, from, of(1, from))
			found(t, s, i, of(2, i))
		}
	}
}

// One at any place below refuses one that tells it otherwise, and none that tells it right.
func TestInsertThatTellsWhatIsThere(t *testing.T) {
	for high := 1; high <= 16; high++ {
		from := 1 << high % all
		for low := range high {
			i := from + 1<<low
			s := &shelf.Shelf{}
			insert(t, s, i, of(1, i))
			refuse(t, s, from, of(2, from), api.ErrSecret)
			refuse(t, s, from, api.Hash{}, api.ErrSecret)
			refuse(t, s, from, of(1, i), api.ErrSecret)
			holds(t, s, 1, i)
			insert(t, s, from, of(1, from))
			holds(t, s, 2, from)
		}
	}
}

// One that tells none of those that stand below goes, of whatever seed it is.
func TestInsertThatTellsNoneOfThem(t *testing.T) {
	for high := range 15 {
		s := &shelf.Shelf{}
		from := 1 << high
		for low := range high {
			insert(t, s, 3<<high+1<<low, of(1, 3<<high+1<<low))
		}
		insert(t, s, from, of(2, from))
		holds(t, s, high+1, from)
		found(t, s, from, of(2, from))
	}
}

// One of many that stand below is enough to refuse it.
func TestInsertThatFailsAtOneOfMany(t *testing.T) {
	const from = 0x4000
	for odd := range 14 {
		s := &shelf.Shelf{}
		for low := range 14 {
			i := from + 1<<low
			if low == odd {
				insert(t, s, i, of(2, i))
			} else {
				insert(t, s, i, of(1, i))
			}
		}
		refuse(t, s, from, of(1, from), api.ErrSecret)
		refuse(t, s, from, of(2, from), api.ErrSecret)
		insert(t, s, from+1<<odd, of(1, from+1<<odd))
		insert(t, s, from, of(1, from))
	}
}

// Those that it tells not don't keep it from being asked about those that it tells.
func TestInsertThatTellsOneAndNotAnother(t *testing.T) {
	s := &shelf.Shelf{}
	insert(t, s, 65535, of(1, 65535))
	insert(t, s, 10, of(1, 10))
	refuse(t, s, 8, of(2, 8), api.ErrSecret)
	insert(t, s, 8, of(1, 8))
	insert(t, s, 65532, of(1, 65532))
	refuse(t, s, 65528, of(2, 65528), api.ErrSecret)
	insert(t, s, 65528, of(1, 65528))
}

// Each bit of what is there counts.
func TestInsertThatDiffersInOneBit(t *testing.T) {
	for bit := range 256 {
		s := &shelf.Shelf{}
		h := of(1, 65535)
		h[bit/8] ^= 1 << (bit % 8)
		insert(t, s, 65535, h)
		refuse(t, s, 65534, of(1, 65534), api.ErrSecret)
		refuse(t, s, 0, seed(1), api.ErrSecret)
		insert(t, s, 65535, of(1, 65535))
		insert(t, s, 65534, of(1, 65534))
		insert(t, s, 0, seed(1))
	}
}

// A refused one is not kept: the right one goes behind it, as if nothing had been.
func TestInsertBehindWhatWasRefused(t *testing.T) {
	s := &shelf.Shelf{}
	insert(t, s, 65535, of(1, 65535))
	for range 3 {
		refuse(t, s, 65534, of(2, 65534), api.ErrSecret)
		missed(t, s, 65534)
		holds(t, s, 1, 65535)
	}
	insert(t, s, 65534, of(1, 65534))
	found(t, s, 65534, of(1, 65534))
	holds(t, s, 2, 65534)
}

// P5.2

func TestNothingOnAShelf(t *testing.T) {
	s := &shelf.Shelf{}
	holds(t, s, 0, 0)
	missed(t, s, edges()...)
	missed(t, s, noNumbers...)
}

func TestLookupOfNoNumber(t *testing.T) {
	s := &shelf.Shelf{}
	insert(t, s, 65535, of(1, 65535))
	missed(t, s, noNumbers...)
	insert(t, s, 0, seed(1))
	missed(t, s, noNumbers...)
}

// Of one secret, all those that it can tell, and none beside them.
func TestLookupOfOneForMany(t *testing.T) {
	for _, from := range []int{0, 1, 2, 8, 12, 0x4700, 32768, 65280, 65534, 65535} {
		s := &shelf.Shelf{}
		insert(t, s, from, of(1, from))
		behind := from + 1<<trailing(from)
		for _, i := range append(edges(), from-1, from, from+1, behind-1, behind, behind+1) {
			if i < all && tells(from, i) {
				found(t, s, i, of(1, i))
			} else {
				missed(t, s, i)
			}
		}
	}
}

// Reckoned elsewhere: of the seed 00 01 .. 1f.
func TestLookupOfWhatIsKnown(t *testing.T) {
	var h api.Hash
	for i := range h {
		h[i] = byte(i)
	}
	s := &shelf.Shelf{}
	insert(t, s, 0, h)
	for i, want := range map[int]string{
		0:     "000102030405060708090a0b0c0d0e0f101112131415161718191a1b1c1d1e1f",
		3:     "69ce7244675a31a74de38aa5c76e1f007809f0cd605aa19958cd7f7e4519b1a1",
		256:   "179676e41fba0e6e1fecd0f6835cc280f83fb57d3582e4572c3a1ebd4e13fd87",
		65535: "30a2d248b933998d97c767e779049e49804b4b9c72ff435f6ae9c76521d56152",
	} {
		if h, e := s.Lookup(i); hex.EncodeToString(h[:]) != want || e != api.OK {
			t.Errorf("Lookup(%d): %x %d, not %s", i, h, e, want)
		}
	}
}

// Where several can tell it, the lowest place does.
func TestLookupAtTheLowestPlace(t *testing.T) {
	s := &shelf.Shelf{}
	insert(t, s, 0, of(1, 0))
	insert(t, s, 32768, of(2, 32768))
	insert(t, s, 65532, of(3, 65532))
	insert(t, s, 65534, of(4, 65534))
	insert(t, s, 65535, of(5, 65535))
	for i, n := range map[int]int{0: 1, 32767: 1, 32768: 2, 65531: 2, 65532: 3, 65533: 3, 65534: 4, 65535: 5} {
		found(t, s, i, of(n, i))
	}
	holds(t, s, 5, 0)
}

// The number 0, and a secret of nothing but zeros, are there like all others.
func TestASecretOfZeros(t *testing.T) {
	for _, i := range []int{0, 1, 4, 65535} {
		s := &shelf.Shelf{}
		insert(t, s, i, api.Hash{})
		holds(t, s, 1, i)
		found(t, s, i, api.Hash{})
	}
	s := &shelf.Shelf{}
	insert(t, s, 65535, api.Hash{})
	refuse(t, s, 65534, api.Hash{}, api.ErrSecret)
}

func TestLen(t *testing.T) {
	s := &shelf.Shelf{}
	for n, many := range []int{1, 2, 2, 3, 3, 3, 3, 4, 4, 4, 4, 4, 4, 4, 4, 5, 5} {
		insert(t, s, 65535-n, of(1, 65535-n))
		holds(t, s, many, 65535-n)
	}
}

// The least number may stand at any place, and goes with what takes its place.
func TestLeast(t *testing.T) {
	s := &shelf.Shelf{}
	for _, x := range []struct{ i, many, least int }{
		{65535, 1, 65535}, {100, 2, 100}, {40, 3, 40}, {50, 4, 40}, {1, 4, 1}, {3, 4, 3}, {48, 5, 3}, {65533, 5, 40}, {65528, 5, 48}, {32768, 6, 48},
	} {
		insert(t, s, x.i, of(1, x.i))
		holds(t, s, x.many, x.least)
	}
}

// Each shelf is its own.
func TestTwoShelves(t *testing.T) {
	one, two := &shelf.Shelf{}, &shelf.Shelf{}
	insert(t, one, 65535, of(1, 65535))
	missed(t, two, 65535)
	insert(t, two, 65534, of(2, 65534))
	insert(t, one, 65534, of(1, 65534))
	found(t, two, 65534, of(2, 65534))
	holds(t, one, 2, 65534)
	holds(t, two, 1, 65534)
}

// Nothing is said of how a nil shelf answers, but that it does.
func TestNilShelf(t *testing.T) {
	var s *shelf.Shelf
	for _, i := range []int{0, 5, 65535, -1, 65536} {
		if e := s.Insert(i, seed(1)); e != api.ErrArg {
			t.Errorf("Insert(%d): %d", i, e)
		}
		missed(t, s, i)
	}
	holds(t, s, 0, 0)
}

// R4: writing over what was answered changes nothing.
func TestWritingOverAnAnswer(t *testing.T) {
	s := &shelf.Shelf{}
	h := of(1, 65534)
	insert(t, s, 65534, h)
	h[0]++
	a, _ := s.Lookup(65534)
	a[0]++
	found(t, s, 65534, of(1, 65534))
}

// Any secrets in any order, as the promises' words have it.
func TestAnyOrder(t *testing.T) {
	r := rand.New(rand.NewSource(51))
	for round := range 300 {
		s, m := &shelf.Shelf{}, model{}
		span, seeds := 1<<(1+r.Intn(16)), 1+r.Intn(3)
		for range 60 {
			i := r.Intn(span+2) - 1 + (all-span)*(round%2)
			if r.Intn(3) == 0 {
				i &^= 1<<r.Intn(17) - 1
			}
			h := stepped(seed(r.Intn(seeds)), i, 16)
			if r.Intn(20) == 0 {
				h = anyHash(r)
			}
			if got, want := s.Insert(i, h), m.insert(i, h); got != want {
				t.Fatalf("round %d: Insert(%d, %x): %d, not %d", round, i, h, got, want)
			}
			j := r.Intn(span+2) - 1 + (all-span)*(round%2)
			h, e := s.Lookup(j)
			if wh, we := m.lookup(j); h != wh || e != we {
				t.Fatalf("round %d: Lookup(%d): %x %d, not %x %d", round, j, h, e, wh, we)
			}
			holds(t, s, len(m), m.least())
		}
	}
}

// P5.3

// From 65535 down, none is refused, and each is told, while they come as at the end.
func TestFewForMany(t *testing.T) {
	l := tree(1)
	s := &shelf.Shelf{}
	r := rand.New(rand.NewSource(52))
	for i := all - 1; i >= 0; i-- {
		insert(t, s, i, l[i])
		if k, is := s.Least(); k != i || !is || s.Len() > 17 {
			t.Fatalf("%d: Least %d %t, Len %d", i, k, is, s.Len())
		}
		for _, j := range []int{i, all - 1, i + r.Intn(all-i)} {
			if h, e := s.Lookup(j); h != l[j] || e != api.OK {
				t.Fatalf("%d: Lookup(%d): %x %d", i, j, h, e)
			}
		}
		if r.Intn(64) == 0 && i > 0 {
			missed(t, s, i-1, r.Intn(i))
		}
	}
	holds(t, s, 17, 0)
	for i, want := range l {
		if h, e := s.Lookup(i); h != want || e != api.OK {
			t.Fatalf("at the end: Lookup(%d): %x %d", i, h, e)
		}
	}
}

// One of another seed is refused as soon as it tells one that is there. One with
// an odd number tells itself alone: it goes, and then the next of its own seed
// is held against it.
func TestAnotherSeedIsRefused(t *testing.T) {
	one, two := tree(1), tree(2)
	s := &shelf.Shelf{}
	for i := all - 1; i >= 0; i-- {
		if i%2 == 0 {
			refuse(t, s, i, two[i], api.ErrSecret)
		} else {
			other := *s
			insert(t, &other, i, two[i])
			refuse(t, &other, i-1, one[i-1], api.ErrSecret)
		}
		insert(t, s, i, one[i])
	}
}
