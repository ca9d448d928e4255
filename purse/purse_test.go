package purse_test

import (
	"math"
	"math/rand"
	"slices"
	"testing"

	"remitter/api"
	"remitter/purse"
)

// top is the greatest sum that a purse may have, and last the greatest number.
const (
	top  = 1 << 50
	last = math.MaxUint64
)

// most is how many accounts a purse may have, and how many reservations.
const most = 32

// noNumbers are numbers that neither an account nor a reservation ever has.
var noNumbers = []int{-1, -2, -most, most, most + 1, 1 << 31, 1 << 32, math.MinInt, math.MinInt + 1, math.MaxInt}

// A kept is a reservation by the document's words; one of 0 is none.
type kept struct {
	account int
	amount  uint64
}

// A model is a purse by the document's words: its balances, and a place for
// each number that a reservation may have.
type model struct {
	balances []uint64
	places   [most]kept
}

func (m *model) has(a int) bool {
	return a >= 0 && a < len(m.balances)
}

func (m *model) there(id int) bool {
	return id >= 0 && id < most && m.places[id].amount > 0
}

func (m *model) held(a int) (n uint64) {
	for _, k := range m.places {
		if k.account == a {
			n += k.amount
		}
	}
	return n
}

func (m *model) total() (n uint64) {
	for a, b := range m.balances {
		n += b + m.held(a)
	}
	return n
}

func (m *model) reserve(a int, n uint64) (int, api.Errno) {
	id := slices.IndexFunc(m.places[:], func(k kept) bool { return k.amount == 0 })
	switch {
	case !m.has(a):
		return 0, api.ErrNone
	case n == 0:
		return 0, api.ErrArg
	case id < 0:
		return 0, api.ErrFull
	case m.balances[a] < n:
		return 0, api.ErrFunds
	}
	m.balances[a] -= n
	m.places[id] = kept{a, n}
	return id, api.OK
}

func (m *model) commit(id, to int) api.Errno {
	switch {
	case !m.there(id):
		return api.ErrArg
	case !m.has(to):
		return api.ErrNone
	}
	m.balances[to] += m.places[id].amount
	m.places[id] = kept{}
	return api.OK
}

func (m *model) release(id int) api.Errno {
	if !m.there(id) {
		return api.ErrArg
	}
	return m.commit(id, m.places[id].account)
}

func (m *model) move(from, to int, n uint64) api.Errno {
	switch {
	case !m.has(from) || !m.has(to):
		return api.ErrNone
	case n == 0:
		return api.ErrArg
	case m.balances[from] < n:
		return api.ErrFunds
	}
	m.balances[from] -= n
	m.balances[to] += n
	return api.OK
}

// making makes a purse of l.
func making(t *testing.T, l ...uint64) *purse.Purse {
	t.Helper()
	p := purse.New(l)
	if p == nil {
		t.Fatalf("no purse of %d", l)
	}
	return p
}

// wantHas asks for the balances, for nothing behind them, and for what is
// reserved of each account.
func wantHas(t *testing.T, p *purse.Purse, balances, held []uint64) {
	t.Helper()
	sum := uint64(0)
	for a := range balances {
		if n, e := p.Balance(a); n != balances[a] || e != api.OK {
			t.Errorf("Balance(%d): %d, %d; want %d", a, n, e, balances[a])
		}
		if n, e := p.Held(a); n != held[a] || e != api.OK {
			t.Errorf("Held(%d): %d, %d; want %d", a, n, e, held[a])
		}
		sum += balances[a] + held[a]
	}
	for _, a := range append([]int{len(balances)}, noNumbers...) {
		if n, e := p.Balance(a); n != 0 || e != api.ErrNone {
			t.Errorf("Balance(%d): %d, %d", a, n, e)
		}
		if n, e := p.Held(a); n != 0 || e != api.ErrNone {
			t.Errorf("Held(%d): %d, %d", a, n, e)
		}
	}
	if n := p.Total(); n != sum {
		t.Errorf("Total: %d; want %d", n, sum)
	}
}

// wantModel asks p for all that m has.
func wantModel(t *testing.T, p *purse.Purse, m *model) {
	t.Helper()
	held := make([]uint64, len(m.balances))
	for a := range held {
		held[a] = m.held(a)
	}
	wantHas(t, p, m.balances, held)
}

// wantReserve asks for a reservation of n of a, by that number, or for an error.
func wantReserve(t *testing.T, p *purse.Purse, a int, n uint64, want int, wantE api.Errno) {
	t.Helper()
	if id, e := p.Reserve(a, n); id != want || e != wantE {
		t.Errorf("Reserve(%d, %d): %d, %d; want %d, %d", a, n, id, e, want, wantE)
	}
}

// wantE asks whether what was answered is an error, or OK.
func wantE(t *testing.T, what string, e, want api.Errno) {
	t.Helper()
	if e != want {
		t.Errorf("%s: %d; want %d", what, e, want)
	}
}

// full makes a purse of l of which 32 reservations of 1 of the account 0 are taken.
func full(t *testing.T, l ...uint64) *purse.Purse {
	t.Helper()
	p := making(t, l...)
	for i := range most {
		wantReserve(t, p, 0, 1, i, api.OK)
	}
	return p
}

// P9.1: 1 to 32 accounts, with these balances from 0 on, and nothing reserved.
func TestNew(t *testing.T) {
	for n := 1; n <= most; n++ {
		l := make([]uint64, n)
		for a := range l {
			l[a] = uint64(100*a + n)
		}
		wantHas(t, making(t, l...), l, make([]uint64, n))
		wantHas(t, making(t, make([]uint64, n)...), make([]uint64, n), make([]uint64, n))
	}
}

// P9.1: no accounts, or more than 32, are no purse, whatever they have.
func TestNewMany(t *testing.T) {
	if purse.New(nil) != nil || purse.New([]uint64{}) != nil {
		t.Error("a purse of no accounts")
	}
	for _, n := range []int{33, 34, 64, 65, 256 + 1, 300} {
		if purse.New(make([]uint64, n)) != nil || purse.New(slices.Repeat([]uint64{1}, n)) != nil {
			t.Errorf("a purse of %d accounts", n)
		}
	}
}

// P9.1: the balances are 2^50 at most, together; a sum that wraps is above that as well.
func TestNewSum(t *testing.T) {
	for _, x := range []struct {
		l    []uint64
		want bool
	}{
		{[]uint64{top - 1}, true},
		{[]uint64{top}, true},
		{[]uint64{top + 1}, false},
		{[]uint64{last}, false},
		{[]uint64{top, 0}, true},
		{[]uint64{0, top}, true},
		{[]uint64{top, 1}, false},
		{[]uint64{1, top}, false},
		{[]uint64{1, 0, top}, false},
		{[]uint64{top - 1, 1}, true},
		{[]uint64{top / 2, top / 2}, true},
		{[]uint64{top / 2, top/2 + 1}, false},
		{slices.Repeat([]uint64{top / most}, most), true},
		{append(slices.Repeat([]uint64{top / most}, most-1), top/most+1), false},
		{[]uint64{1 << 63, 1 << 63}, false}, // 0 in 64 bits
		{[]uint64{last, 1}, false},
		{[]uint64{1, last}, false},
		{[]uint64{last, 2, top}, false},
		{slices.Repeat([]uint64{1 << 62}, 4), false},
		{slices.Repeat([]uint64{1 << 59}, most), false},
	} {
		p := purse.New(x.l)
		if (p != nil) != x.want {
			t.Errorf("New(%d): a purse is %t", x.l, p != nil)
		}
		if p != nil {
			wantHas(t, p, x.l, make([]uint64, len(x.l)))
		}
	}
}

// R4: New keeps nothing of what was handed in, and nothing writes over it.
func TestNewKeepsNothing(t *testing.T) {
	l := []uint64{5, 6, 7, 99}[:3]
	p, q := purse.New(l), purse.New(l)
	l[0], l[1] = 100, last
	wantHas(t, p, []uint64{5, 6, 7}, []uint64{0, 0, 0})
	l[0], l[1] = 5, 6
	wantReserve(t, p, 0, 2, 0, api.OK)
	wantE(t, "Move", p.Move(1, 2, 6), api.OK)
	if !slices.Equal(l[:4], []uint64{5, 6, 7, 99}) {
		t.Errorf("what was handed in is %d", l[:4])
	}
	wantHas(t, p, []uint64{3, 0, 13}, []uint64{2, 0, 0})
	wantHas(t, q, []uint64{5, 6, 7}, []uint64{0, 0, 0})
	wantReserve(t, q, 1, 6, 0, api.OK)
	wantE(t, "Release", q.Release(0), api.OK)
	wantE(t, "Release", q.Release(0), api.ErrArg)
	wantHas(t, p, []uint64{3, 0, 13}, []uint64{2, 0, 0})
}

// P9.2: what is reserved of an account is all of its reservations, and of none other.
func TestHeld(t *testing.T) {
	p := making(t, 10, 20, 30)
	wantReserve(t, p, 0, 1, 0, api.OK)
	wantReserve(t, p, 2, 10, 1, api.OK)
	wantReserve(t, p, 0, 2, 2, api.OK)
	wantReserve(t, p, 2, 20, 3, api.OK)
	wantReserve(t, p, 0, 4, 4, api.OK)
	wantHas(t, p, []uint64{3, 20, 0}, []uint64{7, 0, 30})
	wantE(t, "Commit", p.Commit(2, 1), api.OK)
	wantE(t, "Release", p.Release(1), api.OK)
	wantHas(t, p, []uint64{3, 22, 10}, []uint64{5, 0, 20})
}

// P9.3: all of a balance may be reserved, at once or bit by bit, and no more.
func TestReserve(t *testing.T) {
	p := making(t, 5, 0, top-5)
	wantReserve(t, p, 0, 6, 0, api.ErrFunds)
	wantReserve(t, p, 1, 1, 0, api.ErrFunds)
	wantReserve(t, p, 2, top-4, 0, api.ErrFunds)
	wantReserve(t, p, 0, last, 0, api.ErrFunds)
	wantHas(t, p, []uint64{5, 0, top - 5}, []uint64{0, 0, 0})
	wantReserve(t, p, 2, top-5, 0, api.OK)
	wantReserve(t, p, 0, 3, 1, api.OK)
	wantReserve(t, p, 0, 3, 0, api.ErrFunds)
	wantReserve(t, p, 0, 2, 2, api.OK)
	wantReserve(t, p, 0, 1, 0, api.ErrFunds)
	wantReserve(t, p, 2, 1, 0, api.ErrFunds)
	wantHas(t, p, []uint64{0, 0, 0}, []uint64{5, 0, top - 5})
}

// P9.3: where several errors apply, the one named first is told, and nothing changes.
func TestReserveErrors(t *testing.T) {
	p := making(t, 5, 0)
	for _, a := range append([]int{2}, noNumbers...) {
		wantReserve(t, p, a, 0, 0, api.ErrNone)
		wantReserve(t, p, a, 1, 0, api.ErrNone)
		wantReserve(t, p, a, last, 0, api.ErrNone)
	}
	wantReserve(t, p, 0, 0, 0, api.ErrArg)
	wantReserve(t, p, 1, 0, 0, api.ErrArg)
	wantHas(t, p, []uint64{5, 0}, []uint64{0, 0})
	p = full(t, 40, 0)
	for _, a := range append([]int{2}, noNumbers...) {
		wantReserve(t, p, a, 0, 0, api.ErrNone)
		wantReserve(t, p, a, 1, 0, api.ErrNone)
	}
	wantReserve(t, p, 0, 0, 0, api.ErrArg)
	wantReserve(t, p, 1, 0, 0, api.ErrArg)
	wantReserve(t, p, 0, 1, 0, api.ErrFull)
	wantReserve(t, p, 0, 9, 0, api.ErrFull)
	wantReserve(t, p, 1, 1, 0, api.ErrFull)
	wantReserve(t, p, 0, last, 0, api.ErrFull)
	wantHas(t, p, []uint64{8, 0}, []uint64{32, 0})
}

// P9.3: a number is the least one that none has, also when several are gone;
// a reservation that was refused takes none.
func TestNumbers(t *testing.T) {
	p := full(t, 100, 0)
	for _, id := range []int{31, 7, 0, 19, 8} {
		wantE(t, "Release", p.Release(id), api.OK)
	}
	wantReserve(t, p, 0, 1000, 0, api.ErrFunds)
	wantReserve(t, p, 0, 0, 0, api.ErrArg)
	for _, id := range []int{0, 7, 8} {
		wantReserve(t, p, 0, 2, id, api.OK)
	}
	wantE(t, "Commit", p.Commit(3, 1), api.OK)
	for _, id := range []int{3, 19, 31} {
		wantReserve(t, p, 0, 2, id, api.OK)
	}
	wantReserve(t, p, 0, 2, 0, api.ErrFull)
	wantHas(t, p, []uint64{100 - 26 - 1 - 12, 1}, []uint64{26 + 12, 0})
}

// P9.3: each of the numbers can be given back and had anew.
func TestEachNumber(t *testing.T) {
	p := full(t, 32)
	for id := range most {
		wantReserve(t, p, 0, 1, 0, api.ErrFull)
		if id%2 == 0 {
			wantE(t, "Release", p.Release(id), api.OK)
			wantE(t, "Release", p.Release(id), api.ErrArg)
		} else {
			wantE(t, "Commit", p.Commit(id, 0), api.OK)
			wantE(t, "Commit", p.Commit(id, 0), api.ErrArg)
		}
		wantHas(t, p, []uint64{1}, []uint64{31})
		wantReserve(t, p, 0, 1, id, api.OK)
		wantHas(t, p, []uint64{0}, []uint64{32})
	}
}

// P9.3: what is committed goes to any account, that it came from as well, and is gone.
func TestCommit(t *testing.T) {
	for to := range 3 {
		p := making(t, 5, 7, top-12)
		wantReserve(t, p, 1, 4, 0, api.OK)
		wantReserve(t, p, 1, 2, 1, api.OK)
		wantE(t, "Commit", p.Commit(0, to), api.OK)
		balances := []uint64{5, 1, top - 12}
		balances[to] += 4
		wantHas(t, p, balances, []uint64{0, 2, 0})
		wantE(t, "Commit", p.Commit(0, to), api.ErrArg)
		wantE(t, "Release", p.Release(0), api.ErrArg)
		wantHas(t, p, balances, []uint64{0, 2, 0})
	}
}

// P9.3: a reservation that is not there comes ahead of an account that is not there.
func TestCommitErrors(t *testing.T) {
	p := making(t, 5, 0)
	wantReserve(t, p, 0, 3, 0, api.OK)
	for _, id := range append([]int{1, 2, 31}, noNumbers...) {
		for _, to := range append([]int{0, 1, 2}, noNumbers...) {
			wantE(t, "Commit of none", p.Commit(id, to), api.ErrArg)
		}
		wantE(t, "Release of none", p.Release(id), api.ErrArg)
	}
	for _, to := range append([]int{2}, noNumbers...) {
		wantE(t, "Commit to none", p.Commit(0, to), api.ErrNone)
	}
	wantHas(t, p, []uint64{2, 0}, []uint64{3, 0})
	wantE(t, "Commit", p.Commit(0, 1), api.OK)
	wantHas(t, p, []uint64{2, 3}, []uint64{0, 0})
}

// P9.3: what is released goes back to where it came from, whatever went on.
func TestRelease(t *testing.T) {
	p := making(t, 1, 20, 300)
	for a, n := range []uint64{1, 10, 100} {
		wantReserve(t, p, a, n, a, api.OK)
	}
	wantE(t, "Move", p.Move(1, 0, 4), api.OK)
	wantE(t, "Release", p.Release(1), api.OK)
	wantHas(t, p, []uint64{4, 16, 200}, []uint64{1, 0, 100})
	wantE(t, "Release", p.Release(2), api.OK)
	wantHas(t, p, []uint64{4, 16, 300}, []uint64{1, 0, 0})
	wantE(t, "Release", p.Release(0), api.OK)
	wantHas(t, p, []uint64{5, 16, 300}, []uint64{0, 0, 0})
	for id := range 3 {
		wantE(t, "Release", p.Release(id), api.ErrArg)
		wantE(t, "Commit", p.Commit(id, 0), api.ErrArg)
	}
	wantHas(t, p, []uint64{5, 16, 300}, []uint64{0, 0, 0})
}

// P9.4: all of a balance may be moved, and no more; what is reserved may not.
func TestMove(t *testing.T) {
	p := making(t, 5, 7, top-12)
	wantE(t, "Move", p.Move(0, 1, 6), api.ErrFunds)
	wantE(t, "Move", p.Move(0, 1, last), api.ErrFunds)
	wantE(t, "Move", p.Move(0, 1, 5), api.OK)
	wantHas(t, p, []uint64{0, 12, top - 12}, []uint64{0, 0, 0})
	wantE(t, "Move", p.Move(0, 1, 1), api.ErrFunds)
	wantE(t, "Move", p.Move(2, 1, top-12), api.OK)
	wantHas(t, p, []uint64{0, top, 0}, []uint64{0, 0, 0})
	wantReserve(t, p, 1, top-3, 0, api.OK)
	wantE(t, "Move", p.Move(1, 2, 4), api.ErrFunds)
	wantE(t, "Move", p.Move(1, 2, 2), api.OK)
	wantHas(t, p, []uint64{0, 1, 2}, []uint64{0, top - 3, 0})
}

// P9.4: to itself an account moves what it has, and nothing changes.
func TestMoveToItself(t *testing.T) {
	p := making(t, 5, 7)
	wantE(t, "Move", p.Move(0, 0, 5), api.OK)
	wantE(t, "Move", p.Move(0, 0, 1), api.OK)
	wantE(t, "Move", p.Move(0, 0, 6), api.ErrFunds)
	wantE(t, "Move", p.Move(0, 0, 0), api.ErrArg)
	wantHas(t, p, []uint64{5, 7}, []uint64{0, 0})
}

// P9.4: where several errors apply, the one named first is told, and nothing changes.
func TestMoveErrors(t *testing.T) {
	p := making(t, 5, 7)
	wantReserve(t, p, 1, 7, 0, api.OK)
	for _, n := range []uint64{0, 1, 100, last} {
		for _, a := range append([]int{2}, noNumbers...) {
			wantE(t, "Move from none", p.Move(a, 0, n), api.ErrNone)
			wantE(t, "Move to none", p.Move(0, a, n), api.ErrNone)
			wantE(t, "Move to none of one without any", p.Move(1, a, n), api.ErrNone)
			wantE(t, "Move of none", p.Move(a, a, n), api.ErrNone)
		}
	}
	wantE(t, "Move of nothing", p.Move(0, 1, 0), api.ErrArg)
	wantE(t, "Move of nothing of nothing", p.Move(1, 0, 0), api.ErrArg)
	wantE(t, "Move of what is reserved", p.Move(1, 0, 1), api.ErrFunds)
	wantHas(t, p, []uint64{5, 0}, []uint64{0, 7})
}

// P9.4: of reservations that take all numbers Move says nothing.
func TestMoveWhenFull(t *testing.T) {
	p := full(t, 40, 0)
	wantE(t, "Move", p.Move(0, 1, 9), api.ErrFunds)
	wantE(t, "Move", p.Move(0, 1, 8), api.OK)
	wantE(t, "Move", p.Move(1, 0, 3), api.OK)
	wantHas(t, p, []uint64{3, 5}, []uint64{32, 0})
}

// P9.4: the greatest Total there is counts what is in balances and reservations.
func TestTotal(t *testing.T) {
	l := slices.Repeat([]uint64{top / most}, most)
	p := making(t, l...)
	for a := range most {
		wantReserve(t, p, a, top/most, a, api.OK)
		if n := p.Total(); n != top {
			t.Errorf("Total: %d", n)
		}
	}
	wantHas(t, p, make([]uint64, most), l)
	for id := range most {
		wantE(t, "Commit", p.Commit(id, 31), api.OK)
		if n := p.Total(); n != top {
			t.Errorf("Total: %d", n)
		}
	}
	wantHas(t, p, append(make([]uint64, most-1), top), make([]uint64, most))
}

// TestExample is the document's own.
func TestExample(t *testing.T) {
	p := making(t, 5, 0)
	wantReserve(t, p, 0, 3, 0, api.OK)
	wantHas(t, p, []uint64{2, 0}, []uint64{3, 0})
	wantE(t, "Commit", p.Commit(0, 1), api.OK)
	wantHas(t, p, []uint64{2, 3}, []uint64{0, 0})
}

// anyOf tells a number below n, and now and then one that is not there.
func anyOf(r *rand.Rand, n int) int {
	if r.Intn(12) == 0 {
		return noNumbers[r.Intn(len(noNumbers))]
	}
	return r.Intn(n + 1)
}

// anyAmount tells some of what a has, now and then nothing, all of it, or more.
func anyAmount(r *rand.Rand, m *model, a int) uint64 {
	n := uint64(1)
	if m.has(a) {
		n = m.balances[a]
	}
	switch r.Intn(10) {
	case 0:
		return 0
	case 1:
		return n
	case 2:
		return n + 1
	case 3:
		return r.Uint64() >> r.Intn(64)
	}
	return r.Uint64()%(n/4+1) + 1
}

// anyModel makes a model of some accounts, small ones or such as are MaxAmount in all.
func anyModel(r *rand.Rand) *model {
	l := make([]uint64, 1+r.Intn([]int{3, most}[r.Intn(2)]))
	greatest := []int64{0, 60, 2000, top/int64(len(l)) + 1}[r.Intn(4)]
	for a := range l {
		if greatest > 0 {
			l[a] = uint64(r.Int63n(greatest))
		}
	}
	return &model{balances: l}
}

// act does any one thing to a purse and its model, and asks for one answer.
// While it fills, reservations begin more often than they end.
func act(t *testing.T, r *rand.Rand, p *purse.Purse, m *model, fills bool) {
	t.Helper()
	a, b := anyOf(r, len(m.balances)), anyOf(r, len(m.balances))
	n, id := anyAmount(r, m, a), anyOf(r, most)
	kind := r.Intn(4)
	if fills && r.Intn(4) > 0 {
		kind = 0
	}
	switch kind {
	case 0:
		want, e := m.reserve(a, n)
		wantReserve(t, p, a, n, want, e)
	case 1:
		wantE(t, "Commit", p.Commit(id, b), m.commit(id, b))
	case 2:
		wantE(t, "Release", p.Release(id), m.release(id))
	case 3:
		wantE(t, "Move", p.Move(a, b, n), m.move(a, b, n))
	}
}

// P9.2 to P9.5: any acts in any order, on two purses that have nothing to do with each other.
func TestModel(t *testing.T) {
	r := rand.New(rand.NewSource(9))
	for run := range 300 {
		models := [2]*model{anyModel(r), anyModel(r)}
		purses := [2]*purse.Purse{making(t, models[0].balances...), making(t, models[1].balances...)}
		totals := [2]uint64{models[0].total(), models[1].total()}
		for step := range 300 {
			i := r.Intn(2)
			act(t, r, purses[i], models[i], step/60%2 == 0)
			for i, p := range purses {
				wantModel(t, p, models[i])
				if p.Total() != totals[i] {
					t.Errorf("Total is %d, and was %d", p.Total(), totals[i])
				}
			}
			if t.Failed() {
				t.Fatalf("run %d, step %d", run, step)
			}
		}
	}
}

// P9.5: a reservation that is released leaves all as it was, the next number as well.
func TestReleaseLeavesAll(t *testing.T) {
	r := rand.New(rand.NewSource(95))
	for range 300 {
		m := anyModel(r)
		p := making(t, m.balances...)
		for range r.Intn(60) {
			act(t, r, p, m, true)
		}
		a := r.Intn(len(m.balances))
		n := anyAmount(r, m, a)
		id, e := p.Reserve(a, n)
		if e == api.OK {
			wantE(t, "Release", p.Release(id), api.OK)
		}
		wantModel(t, p, m)
		if next, nextE := p.Reserve(a, n); next != id || nextE != e {
			t.Errorf("Reserve(%d, %d): %d, %d; at first %d, %d", a, n, next, nextE, id, e)
		}
	}
}

// P9.5: Move leaves what Reserve and Commit leave, and answers what they answer.
func TestMoveIsBoth(t *testing.T) {
	for _, l := range [][]uint64{{9}, {9, 0}, {4, 5}, {0, 9, 1}, {top - 1, 1}} {
		for from := range l {
			for to := range l {
				for _, n := range []uint64{0, 1, 4, 5, 9, 10, top - 1, top, last} {
					p, q := making(t, l...), making(t, l...)
					id, e := q.Reserve(from, n)
					if e == api.OK {
						e = q.Commit(id, to)
					}
					wantE(t, "Move", p.Move(from, to, n), e)
					for a := range l {
						x, _ := p.Balance(a)
						y, _ := q.Balance(a)
						if x != y {
							t.Errorf("Move(%d, %d, %d) of %d: %d has %d, not %d", from, to, n, l, a, x, y)
						}
					}
				}
			}
		}
	}
}

// Of a purse that New did not make the document says nothing: it has nothing, and no call panics.
func TestNoPurse(t *testing.T) {
	for _, p := range []*purse.Purse{nil, {}} {
		wantHas(t, p, nil, nil)
		for _, i := range append([]int{0, 1, 31}, noNumbers...) {
			wantReserve(t, p, i, 0, 0, api.ErrNone)
			wantReserve(t, p, i, 1, 0, api.ErrNone)
			wantE(t, "Commit", p.Commit(i, i), api.ErrArg)
			wantE(t, "Release", p.Release(i), api.ErrArg)
			wantE(t, "Move", p.Move(i, i, 1), api.ErrNone)
		}
		wantHas(t, p, nil, nil)
	}
}
