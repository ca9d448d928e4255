package amount_test

import (
	"math"
	"math/big"
	"math/rand"
	"slices"
	"testing"

	"remitter/amount"
	"remitter/api"
)

// top is the greatest amount that may be, and last the greatest number.
const (
	top  = 1 << 50
	last = math.MaxUint64
)

// edges are numbers at which a sum, a fee or a number's width changes, and those next to them.
func edges() []uint64 {
	l := []uint64{0, 1, 2, 3, 9, 10, 99, 909, 5999, 6000}
	for _, n := range []uint64{1000, 500000, 1000000, 2000000, 1 << 31, 1 << 32, 1 << 40, 1 << 44, top / 2, top, 2 * top, top * 1000, 1 << 63, last/1000000 + 1, last - 1} {
		l = append(l, n-1, n, n+1)
	}
	return l
}

// anyNumber makes a number of any length in bits, the short ones as often as the long ones.
func anyNumber(r *rand.Rand) uint64 {
	return r.Uint64() >> r.Intn(64)
}

// number is n without a bound.
func number(n uint64) *big.Int { return new(big.Int).SetUint64(n) }

// within tells the n that is MaxAmount at most, or why there is none.
func within(n *big.Int) (uint64, api.Errno) {
	if n.Cmp(big.NewInt(top)) > 0 {
		return 0, api.ErrOver
	}
	return n.Uint64(), api.OK
}

// sum is what P6.1 asks of Add.
func sum(l []uint64) (uint64, api.Errno) {
	s := big.NewInt(0)
	for _, n := range l {
		s.Add(s, number(n))
	}
	return within(s)
}

// fee is what P6.2 asks of Fee, without a bound.
func fee(base, rate, n uint64) *big.Int {
	part := new(big.Int).Mul(number(n), number(rate))
	part.Quo(part, big.NewInt(1000000))
	return part.Add(part, number(base))
}

// enough is what P6.2 asks of Enough.
func enough(in, out, base, rate uint64) bool {
	f := fee(base, rate, out)
	if f.Cmp(big.NewInt(top)) > 0 {
		return false
	}
	return f.Add(f, number(out)).Cmp(number(in)) <= 0
}

// most is what P6.3 asks of Most: it halves what lies between an out that is enough, or 0, and one that isn't.
func most(in, base, rate uint64) uint64 {
	if enough(in, in, base, rate) {
		return in
	}
	low, high := uint64(0), in
	for high > low+1 {
		if middle := low + (high-low)/2; enough(in, middle, base, rate) {
			low = middle
		} else {
			high = middle
		}
	}
	return low
}

// wantAdd asks for the sum of l.
func wantAdd(t *testing.T, l []uint64, want uint64, wantE api.Errno) {
	t.Helper()
	kept := slices.Clone(l)
	if n, e := amount.Add(l...); n != want || e != wantE {
		t.Errorf("Add(%d): %d, %d; want %d, %d", l, n, e, want, wantE)
	}
	if !slices.Equal(l, kept) {
		t.Errorf("Add changed %d to %d", kept, l)
	}
}

// P6.1: the sum of any many amounts, up to MaxAmount.
func TestAdd(t *testing.T) {
	ones := slices.Repeat([]uint64{1}, 300)
	great := slices.Repeat([]uint64{1 << 62}, 300) // four of them are 0 in 64 bits
	for _, x := range []struct {
		l    []uint64
		want uint64
		e    api.Errno
	}{
		{nil, 0, api.OK},
		{[]uint64{}, 0, api.OK},
		{[]uint64{0}, 0, api.OK},
		{[]uint64{0, 0, 0}, 0, api.OK},
		{[]uint64{7}, 7, api.OK},
		{[]uint64{1, 2, 3}, 6, api.OK},
		{[]uint64{5, 5, 5, 5}, 20, api.OK},
		{ones, 300, api.OK},
		{[]uint64{top}, top, api.OK},
		{[]uint64{top - 1, 1}, top, api.OK},
		{[]uint64{1, top - 1, 0}, top, api.OK},
		{[]uint64{top / 2, top / 2}, top, api.OK},
		{append([]uint64{top - 300}, ones...), top, api.OK},
		{append([]uint64{top - 299}, ones...), 0, api.ErrOver},
		{[]uint64{top + 1}, 0, api.ErrOver},
		{[]uint64{top, 1}, 0, api.ErrOver},
		{[]uint64{1, top}, 0, api.ErrOver},
		{[]uint64{top, top}, 0, api.ErrOver},
		{[]uint64{top / 2, top / 2, 1}, 0, api.ErrOver},
		{[]uint64{last}, 0, api.ErrOver},
		{[]uint64{last, 1}, 0, api.ErrOver},
		{[]uint64{1, last}, 0, api.ErrOver},
		{[]uint64{last, 2, 0}, 0, api.ErrOver},
		{[]uint64{last, last, last}, 0, api.ErrOver},
		{[]uint64{1 << 63, 1 << 63}, 0, api.ErrOver},
		{[]uint64{top, last - top + 1}, 0, api.ErrOver},
		{[]uint64{5, last - 5 + 1, 3}, 0, api.ErrOver},
		{great, 0, api.ErrOver},
	} {
		wantAdd(t, x.l, x.want, x.e)
	}
	if n, e := amount.Add(); n != 0 || e != api.OK {
		t.Errorf("Add(): %d, %d", n, e)
	}
}

// P6.1: two and three of the edges, and random lists, against sums without a bound.
func TestAddModel(t *testing.T) {
	l := edges()
	for _, a := range l {
		for _, b := range l {
			for _, c := range []uint64{0, 1, b, top - 1, last} {
				want, e := sum([]uint64{a, b, c})
				wantAdd(t, []uint64{a, b, c}, want, e)
			}
		}
	}
	r := rand.New(rand.NewSource(61))
	for range 20000 {
		some := make([]uint64, r.Intn(12))
		for i := range some {
			some[i] = anyNumber(r) >> r.Intn(30)
		}
		want, e := sum(some)
		wantAdd(t, some, want, e)
	}
}

// wantSub asks for the difference of a and b.
func wantSub(t *testing.T, a, b, want uint64, wantE api.Errno) {
	t.Helper()
	if n, e := amount.Sub(a, b); n != want || e != wantE {
		t.Errorf("Sub(%d, %d): %d, %d; want %d, %d", a, b, n, e, want, wantE)
	}
}

// P6.1: the difference, also of numbers above MaxAmount.
func TestSub(t *testing.T) {
	wantSub(t, 5, 3, 2, api.OK)
	wantSub(t, 5, 5, 0, api.OK)
	wantSub(t, 5, 6, 0, api.ErrFunds)
	wantSub(t, 0, 0, 0, api.OK)
	wantSub(t, 0, 1, 0, api.ErrFunds)
	wantSub(t, 0, last, 0, api.ErrFunds)
	wantSub(t, top, 0, top, api.OK)
	wantSub(t, top+1, 0, top+1, api.OK)
	wantSub(t, last, 0, last, api.OK)
	wantSub(t, last, 1, last-1, api.OK)
	wantSub(t, last, last, 0, api.OK)
	wantSub(t, last-1, last, 0, api.ErrFunds)
	wantSub(t, 1<<63-1, 1<<63, 0, api.ErrFunds)
	wantSub(t, 1<<63, 1<<63-1, 1, api.OK)
}

// P6.1: each two of the edges.
func TestSubModel(t *testing.T) {
	for _, a := range edges() {
		for _, b := range edges() {
			d := new(big.Int).Sub(number(a), number(b))
			if d.Sign() < 0 {
				wantSub(t, a, b, 0, api.ErrFunds)
			} else {
				wantSub(t, a, b, d.Uint64(), api.OK)
			}
		}
	}
}

// wantFee asks for the fee of n.
func wantFee(t *testing.T, base, rate, n, want uint64, wantE api.Errno) {
	t.Helper()
	if f, e := amount.Fee(base, rate, n); f != want || e != wantE {
		t.Errorf("Fee(%d, %d, %d): %d, %d; want %d, %d", base, rate, n, f, e, want, wantE)
	}
}

// P6.2: base as it is, and the part of n rounded down, up to MaxAmount.
func TestFee(t *testing.T) {
	for _, x := range []struct {
		base, rate, n, want uint64
		e                   api.Errno
	}{
		{1, 1000, 5999, 6, api.OK}, // the document's example
		{1, 1000, 6000, 7, api.OK},
		{1, 1000, 999, 1, api.OK},
		{1, 1000, 1000, 2, api.OK},
		{0, 0, 0, 0, api.OK},
		{3, 0, 0, 3, api.OK},
		{3, 0, last, 3, api.OK},
		{3, last, 0, 3, api.OK},
		{0, 1, 999999, 0, api.OK},
		{0, 1, 1000000, 1, api.OK},
		{0, 999999, 1, 0, api.OK},
		{0, 1000000, 1, 1, api.OK},
		{0, 1000001, 1, 1, api.OK},
		{0, 2000000, 7, 14, api.OK},
		{999999, 1, 999999, 999999, api.OK},
		{top, 0, 5, top, api.OK},
		{top, 1, 999999, top, api.OK},
		{top, 1, 1000000, 0, api.ErrOver},
		{top - 1, 1, 1999999, top, api.OK},
		{top - 1, 1, 2000000, 0, api.ErrOver},
		{top + 1, 0, 0, 0, api.ErrOver},
		{last, 0, 0, 0, api.ErrOver},
		{last, 1, 1000000, 0, api.ErrOver}, // 0 in 64 bits
		{last, last, last, 0, api.ErrOver},
		{0, 1000000, top, top, api.OK},
		{0, 1000000, top + 1, 0, api.ErrOver},
		{1, 1000000, top, 0, api.ErrOver},
		{0, 1000000, last, 0, api.ErrOver},
		{0, top, 1000000, top, api.OK}, // their product is above 64 bits
		{0, top, 1000001, 0, api.ErrOver},
		{0, last, 1, last / 1000000, api.OK},
		{0, last, 61, 1125251388496282, api.OK},
		{0, last, 62, 0, api.ErrOver},
		{0, 61, last, 1125251388496282, api.OK},
		{0, 62, last, 0, api.ErrOver},
		{0, 1 << 32, 1 << 32, 18446744073709, api.OK}, // 0 in 64 bits
		{0, 1000000 << 18, 1 << 32, top, api.OK},
		{0, 1000000<<18 + 1, 1 << 32, 0, api.ErrOver},
		{0, 1000000 << 32, 1 << 32, 0, api.ErrOver}, // the part is 0 in 64 bits
		{0, 1000000 << 40, 1 << 44, 0, api.ErrOver},
		{0, last, last, 0, api.ErrOver},
	} {
		wantFee(t, x.base, x.rate, x.n, x.want, x.e)
	}
}

// P6.2: all of the edges with each other, and random numbers, against fees without a bound.
func TestFeeModel(t *testing.T) {
	l := edges()
	ask := func(base, rate, n uint64) {
		want, e := within(fee(base, rate, n))
		wantFee(t, base, rate, n, want, e)
	}
	for _, rate := range l {
		for _, n := range l {
			for _, base := range []uint64{0, 1, 1000, top - 1, top, top + 1, last} {
				ask(base, rate, n)
			}
		}
	}
	r := rand.New(rand.NewSource(62))
	for range 50000 {
		ask(anyNumber(r), anyNumber(r), anyNumber(r))
	}
}

// wantEnough asks whether in is enough for out.
func wantEnough(t *testing.T, in, out, base, rate uint64, want bool) {
	t.Helper()
	if is := amount.Enough(in, out, base, rate); is != want {
		t.Errorf("Enough(%d, %d, %d, %d): %t", in, out, base, rate, is)
	}
}

// P6.2: in is enough, if it is out and the fee of out at least, and that is a fee.
func TestEnough(t *testing.T) {
	for _, x := range []struct {
		in, out, base, rate uint64
		want                bool
	}{
		{0, 0, 0, 0, true},
		{5, 4, 0, 0, true},
		{5, 5, 0, 0, true},
		{5, 6, 0, 0, false},
		{0, 1, 0, 0, false},
		{6, 5, 1, 0, true},
		{5, 5, 1, 0, false},
		{5, 0, 5, 0, true},
		{5, 0, 6, 0, false},
		{6005, 5999, 1, 1000, true}, // the fee of 5999 is 6
		{6004, 5999, 1, 1000, false},
		{6007, 6000, 1, 1000, true},
		{6006, 6000, 1, 1000, false},
		{2, 1, 0, 1000000, true},
		{3, 2, 0, 1000000, false},
		{top, 0, top, 0, true},
		{top + 1, 0, top + 1, 0, false}, // in would do, but the fee is above MaxAmount
		{last, 0, top, 0, true},
		{last, 0, top + 1, 0, false},
		{2 * top, top, 0, 1000000, true},
		{2*top - 1, top, 0, 1000000, false},
		{last, top + 1, 0, 1000000, false},
		{last, last, 0, 0, true}, // of in and out nothing says that they are MaxAmount at most
		{last - 1, last, 0, 0, false},
		{last, last, 1, 0, false}, // together they are 0 in 64 bits
		{0, last, 1, 0, false},
		{1, last, 2, 0, false},
		{last, last - 1, 1, 0, true},
		{last, last, 0, last, false},
		{100, last, 0, last, false},
		{last, 61, 0, last, true},
		{last, 62, 0, last, false},
		{1125251388496282 + 61, 61, 0, last, true},
		{1125251388496282 + 60, 61, 0, last, false},
	} {
		wantEnough(t, x.in, x.out, x.base, x.rate, x.want)
	}
}

// P6.2: the edges with each other, what lies at the edge of an in, and random numbers, without a bound.
func TestEnoughModel(t *testing.T) {
	ask := func(in, out, base, rate uint64) {
		wantEnough(t, in, out, base, rate, enough(in, out, base, rate))
	}
	l := edges()
	for _, out := range l {
		for _, rate := range l {
			for _, base := range []uint64{0, 1, top, top + 1, last} {
				f := fee(base, rate, out).Uint64()
				for _, in := range []uint64{0, out - 1, out, out + f - 1, out + f, out + f + 1, last} {
					ask(in, out, base, rate)
				}
			}
		}
	}
	r := rand.New(rand.NewSource(63))
	for range 50000 {
		ask(anyNumber(r), anyNumber(r), anyNumber(r), anyNumber(r))
	}
}

// wantMost asks for the most that in pays for.
func wantMost(t *testing.T, in, base, rate, want uint64) {
	t.Helper()
	if n := amount.Most(in, base, rate); n != want {
		t.Errorf("Most(%d, %d, %d): %d; want %d", in, base, rate, n, want)
	}
}

// P6.3: the greatest out, by in or by the greatest fee that may be; 0, if there is none.
func TestMost(t *testing.T) {
	for _, x := range []struct{ in, base, rate, want uint64 }{
		{0, 0, 0, 0},
		{1, 0, 0, 1},
		{10, 0, 0, 10},
		{10, 1, 0, 9},
		{10, 9, 0, 1},
		{10, 10, 0, 0}, // 0 is enough
		{10, 11, 0, 0}, // there is none
		{0, 1, 0, 0},
		{0, 0, last, 0},
		{6004, 1, 1000, 5998},
		{6005, 1, 1000, 5999},
		{6006, 1, 1000, 5999},
		{6007, 1, 1000, 6000},
		{1000, 0, 100000, 909},
		{2, 0, 1000000, 1},
		{3, 0, 1000000, 1},
		{4, 0, 1000000, 2},
		{7, 0, 1 << 63, 0},
		{18446744073709, 0, last, 0}, // just the fee of 1
		{18446744073709 + 1, 0, last, 1},
		{top, 0, 0, top},
		{top, top, 0, 0},
		{last, 0, 0, last},
		{last, 1, 0, last - 1},
		{last, top, 0, last - top},
		{last, top + 1, 0, 0}, // in would do, but no fee is above MaxAmount
		{last, last, last, 0},
		{last, top, 1, 999999},
		{last, top - 1, 1, 1999999},
		{last, 0, 1000000, top},
		{2 * top, 0, 1000000, top},
		{2*top - 1, 0, 1000000, top - 1},
		{2*top - 2, 0, 1000000, top - 1},
		{last, 0, 1, 18446725626983924632},
		{last, 0, last, 61},
		{last, 0, 61, 18445618890957203226},
		{last, 0, 62, 18159675916816532258}, // the fee of one more is above MaxAmount
	} {
		wantMost(t, x.in, x.base, x.rate, x.want)
	}
}

// P6.3: the edges with each other, and random numbers.
func TestMostModel(t *testing.T) {
	l := edges()
	for _, in := range l {
		for _, rate := range l {
			for _, base := range []uint64{0, 1, in, top, top + 1} {
				wantMost(t, in, base, rate, most(in, base, rate))
			}
		}
	}
	r := rand.New(rand.NewSource(64))
	for range 5000 {
		in, base, rate := anyNumber(r), anyNumber(r), anyNumber(r)
		wantMost(t, in, base, rate, most(in, base, rate))
	}
}

// P6.4: each out up to Most is Enough, each above it isn't; where there is none, 0 isn't either.
func TestUpToMost(t *testing.T) {
	for in := range uint64(60) {
		for _, base := range []uint64{0, 1, 2, 7, 59, 60} {
			for _, rate := range []uint64{0, 1, 1000, 99999, 100000, 333333, 999999, 1000000, 1000001, 5000000, 60000000, last} {
				m := amount.Most(in, base, rate)
				for out := range uint64(70) {
					wantEnough(t, in, out, base, rate, out <= m && base <= in)
				}
				wantEnough(t, in, last, base, rate, false)
			}
		}
	}
}

// P6.4: what lies next to Most, and random numbers below and above it.
func TestUpToGreatMost(t *testing.T) {
	r := rand.New(rand.NewSource(65))
	for range 3000 {
		in, base, rate := anyNumber(r), anyNumber(r)>>r.Intn(64), anyNumber(r)
		m := amount.Most(in, base, rate)
		some := base <= in && base <= top // then 0 is enough
		for _, n := range []uint64{0, 1, 2, r.Uint64(), r.Uint64(), r.Uint64(), m, 1 << 63, last} {
			below := n
			if n > m {
				below = n % (m + 1)
				wantEnough(t, in, n, base, rate, false)
			}
			wantEnough(t, in, m-below, base, rate, some)
			wantEnough(t, in, below, base, rate, some)
			if m+1+below > m { // else there is no such number
				wantEnough(t, in, m+1+below, base, rate, false)
			}
		}
	}
}
