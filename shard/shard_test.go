package shard_test

import (
	"math"
	"math/rand"
	"slices"
	"testing"

	"remitter/api"
	"remitter/purse"
	"remitter/shard"
)

// top is the greatest sum that a bank may have, and last the greatest number.
const (
	top  = 1 << 50
	last = math.MaxUint64
)

// most is how many accounts a bank may have, and how many tasks.
const most = 32

// noNumbers are numbers that no account, no task and no shard ever has.
var noNumbers = []int{-1, -2, -4, -most, most, most + 1, 1 << 31, 1 << 32, math.MinInt, math.MinInt + 1, math.MaxInt}

// A deed is what one task does, by the document's words: it lists, or it moves.
type deed struct {
	lists    bool
	from, to int
	n        uint64
}

// needs tells whether the shard s is needed for it.
func (d deed) needs(s int) bool {
	return d.lists || d.from%4 == s || d.to%4 == s
}

// A job is a task by the document's words.
type job struct {
	deed
	acted, over bool
	result      api.Errno
	told        []uint64
}

// A model is a bank by the document's words; locks has a number for each shard.
type model struct {
	balances []uint64
	locks    [4]int
	jobs     []job
	done     []int
}

func modelOf(l []uint64) *model {
	return &model{balances: slices.Clone(l), locks: [4]int{-1, -1, -1, -1}}
}

func (m *model) has(a int) bool {
	return a >= 0 && a < len(m.balances)
}

func (m *model) begin(d deed) (int, api.Errno) {
	switch {
	case !d.lists && (!m.has(d.from) || !m.has(d.to)):
		return 0, api.ErrNone
	case len(m.jobs) == most:
		return 0, api.ErrFull
	}
	m.jobs = append(m.jobs, job{deed: d})
	return len(m.jobs) - 1, api.OK
}

func (m *model) step(id int) api.Errno {
	if id < 0 || id >= len(m.jobs) || m.jobs[id].over {
		return api.ErrNone
	}
	j := &m.jobs[id]
	for s := range m.locks {
		if j.needs(s) && m.locks[s] != id {
			if m.locks[s] != -1 {
				return api.ErrLock
			}
			m.locks[s] = id
			return api.OK
		}
	}
	if !j.acted {
		j.acted = true
		m.done = append(m.done, id)
		j.result, j.told = m.do(j.deed)
		return api.OK
	}
	j.over = true
	for s := range m.locks {
		if m.locks[s] == id {
			m.locks[s] = -1
		}
	}
	return api.OK
}

func (m *model) do(d deed) (api.Errno, []uint64) {
	switch {
	case d.lists:
		return api.OK, slices.Clone(m.balances)
	case d.n == 0:
		return api.ErrArg, nil
	case m.balances[d.from] < d.n:
		return api.ErrFunds, nil
	}
	m.balances[d.from] -= d.n
	m.balances[d.to] += d.n
	return api.OK, nil
}

// making makes a bank of l.
func making(t *testing.T, l ...uint64) *shard.Bank {
	t.Helper()
	b := shard.New(l)
	if b == nil {
		t.Fatalf("no bank of %d", l)
	}
	return b
}

// wantBegin asks for a task of d, by that number, or for an error.
func wantBegin(t *testing.T, b *shard.Bank, d deed, want int, wantE api.Errno) {
	t.Helper()
	id, e := 0, api.OK
	if d.lists {
		id, e = b.List()
	} else {
		id, e = b.Start(d.from, d.to, d.n)
	}
	if id != want || e != wantE {
		t.Errorf("%+v: %d, %d; want %d, %d", d, id, e, want, wantE)
	}
}

// wantSteps asks for one answer of a step of each of l.
func wantSteps(t *testing.T, b *shard.Bank, want api.Errno, l ...int) {
	t.Helper()
	for i, id := range l {
		if e := b.Step(id); e != want {
			t.Errorf("Step(%d), the step %d: %d; want %d", id, i, e, want)
		}
	}
}

// wantHolders asks who holds each shard's lock, and for none beside them.
func wantHolders(t *testing.T, b *shard.Bank, want ...int) {
	t.Helper()
	for s, id := range want {
		if got := b.Holder(s); got != id {
			t.Errorf("Holder(%d): %d; want %d", s, got, id)
		}
	}
	for _, s := range append([]int{4, 5, 7, 8}, noNumbers...) {
		if got := b.Holder(s); got != -1 {
			t.Errorf("Holder(%d): %d", s, got)
		}
	}
}

// wantList asks whether a list is as it should be.
func wantList[N int | uint64](t *testing.T, what string, got []N, want ...N) {
	t.Helper()
	if !slices.Equal(got, want) {
		t.Errorf("%s: %v; want %v", what, got, want)
	}
}

// wantResult asks for the result of a task that acted.
func wantResult(t *testing.T, b *shard.Bank, id int, want api.Errno) {
	t.Helper()
	if e, acted := b.Result(id); e != want || !acted {
		t.Errorf("Result(%d): %d, %t; want %d", id, e, acted, want)
	}
}

// wantNoResult asks for none, and that nothing was told.
func wantNoResult(t *testing.T, b *shard.Bank, ids ...int) {
	t.Helper()
	for _, id := range ids {
		if e, acted := b.Result(id); e != api.OK || acted {
			t.Errorf("Result(%d): %d, %t", id, e, acted)
		}
		wantList(t, "Told", b.Told(id))
	}
}

// wantModel asks b for all that m has.
func wantModel(t *testing.T, b *shard.Bank, m *model) {
	t.Helper()
	wantList(t, "Balances", b.Balances(), m.balances...)
	wantList(t, "Done", b.Done(), m.done...)
	wantHolders(t, b, m.locks[:]...)
	for id, j := range m.jobs {
		if e, acted := b.Result(id); e != j.result || acted != j.acted {
			t.Errorf("Result(%d): %d, %t; want %d, %t", id, e, acted, j.result, j.acted)
		}
		wantList(t, "Told", b.Told(id), j.told...)
	}
	wantNoResult(t, b, append([]int{len(m.jobs)}, noNumbers...)...)
}

// P10.1: a bank of 1 to 32 accounts, with these balances in order, no tasks and no lock held.
func TestNew(t *testing.T) {
	for n := 1; n <= most; n++ {
		l := make([]uint64, n)
		for a := range l {
			l[a] = uint64(100*a + n)
		}
		b := making(t, l...)
		wantModel(t, b, modelOf(l))
		for id := range most {
			wantSteps(t, b, api.ErrNone, id)
			wantNoResult(t, b, id)
		}
		wantModel(t, making(t, make([]uint64, n)...), modelOf(make([]uint64, n)))
	}
}

// P10.1: there is no bank where there is no purse, and one where there is one.
func TestNewNone(t *testing.T) {
	for _, l := range [][]uint64{
		nil, {}, make([]uint64, 33), make([]uint64, 300), slices.Repeat([]uint64{1}, 33),
		{top + 1}, {top, 1}, {1, top}, {last}, {1 << 63, 1 << 63}, {last, 1}, {1, last},
		{top / 2, top/2 + 1}, slices.Repeat([]uint64{1 << 59}, most),
		{0}, {top}, {top, 0}, {0, top}, {top - 1, 1}, slices.Repeat([]uint64{top / most}, most),
	} {
		b := shard.New(l)
		if (b == nil) != (purse.New(l) == nil) {
			t.Errorf("New(%d): no bank is %t", l, b == nil)
		}
		if b != nil {
			wantModel(t, b, modelOf(l))
		}
	}
}

// R4: a bank keeps nothing of what was handed in, and nothing writes over it.
func TestNewKeepsNothing(t *testing.T) {
	l := []uint64{5, 6, 7, 99}[:3]
	b := making(t, l...)
	l[0], l[1] = 100, last
	wantList(t, "Balances", b.Balances(), 5, 6, 7)
	l[0], l[1] = 5, 6
	wantBegin(t, b, deed{from: 0, to: 1, n: 5}, 0, api.OK)
	wantSteps(t, b, api.OK, 0, 0, 0, 0)
	wantList(t, "Balances", b.Balances(), 0, 11, 7)
	wantList(t, "what was handed in", l[:4], 5, 6, 7, 99)
}

// R4: who writes over an answer changes nothing of a later one.
func TestAnswersAreNew(t *testing.T) {
	b := making(t, 5, 6)
	wantBegin(t, b, deed{lists: true}, 0, api.OK)
	wantBegin(t, b, deed{from: 0, to: 1, n: 5}, 1, api.OK)
	wantSteps(t, b, api.OK, 0, 0, 0, 0, 0, 0, 1, 1, 1)
	for range 2 {
		told, done, balances := b.Told(0), b.Done(), b.Balances()
		wantList(t, "Told", told, 5, 6)
		wantList(t, "Done", done, 0, 1)
		wantList(t, "Balances", balances, 0, 11)
		told[0], done[0], balances[0] = 77, 77, 77
		told, done, balances = append(told[:1], 78), append(done[:1], 78), append(balances[:1], 78)
		_, _, _ = append(told, 79), append(done, 79), append(balances, 79)
	}
	wantBegin(t, b, deed{lists: true}, 2, api.OK)
	done := append(b.Done(), 77)
	wantSteps(t, b, api.OK, 1, 2, 2, 2, 2, 2)
	wantList(t, "Done", b.Done(), 0, 1, 2)
	wantList(t, "Done of that time", done, 0, 1, 77)
	wantList(t, "Told", b.Told(2), 0, 11)
	wantList(t, "Told", b.Told(0), 5, 6)
}

// P10.2: an account that is not there comes ahead of tasks that are too many,
// and an amount that may not be moved begins all the same.
func TestStart(t *testing.T) {
	b := making(t, 5, 0, 7)
	for _, n := range []uint64{0, 1, last} {
		for _, a := range append([]int{3}, noNumbers...) {
			wantBegin(t, b, deed{from: a, to: 0, n: n}, 0, api.ErrNone)
			wantBegin(t, b, deed{from: 0, to: a, n: n}, 0, api.ErrNone)
			wantBegin(t, b, deed{from: a, to: a, n: n}, 0, api.ErrNone)
		}
	}
	wantNoResult(t, b, 0)
	for id := range most {
		wantBegin(t, b, deed{from: id % 3, to: 2, n: []uint64{0, 6, last}[id%3]}, id, api.OK)
	}
	for _, a := range append([]int{3}, noNumbers...) {
		wantBegin(t, b, deed{from: a, to: 0, n: 1}, 0, api.ErrNone)
		wantBegin(t, b, deed{from: 0, to: a, n: 0}, 0, api.ErrNone)
	}
	wantBegin(t, b, deed{from: 0, to: 2, n: 1}, 0, api.ErrFull)
	wantBegin(t, b, deed{from: 1, to: 1, n: 0}, 0, api.ErrFull)
	wantBegin(t, b, deed{lists: true}, 0, api.ErrFull)
	wantHolders(t, b, -1, -1, -1, -1)
	wantList(t, "Balances", b.Balances(), 5, 0, 7)
	wantNoResult(t, b, append([]int{0, 31, 32}, noNumbers...)...)
	wantSteps(t, b, api.ErrNone, append([]int{32}, noNumbers...)...)
}

// P10.2: those that list and those that move are counted together, and those
// that are over are counted as well.
func TestFull(t *testing.T) {
	b := making(t, 40, 0)
	for id := range most {
		lists := id%2 == 0
		wantBegin(t, b, deed{lists: lists, from: 0, to: 1, n: 1}, id, api.OK)
		wantSteps(t, b, api.ErrNone, id+1)
		if lists { // it takes two locks more than one that moves
			wantSteps(t, b, api.OK, id, id)
		}
		wantSteps(t, b, api.OK, id, id, id, id)
		wantSteps(t, b, api.ErrNone, id)
	}
	for range 3 {
		wantBegin(t, b, deed{lists: true}, 0, api.ErrFull)
		wantBegin(t, b, deed{from: 0, to: 1, n: 1}, 0, api.ErrFull)
		wantBegin(t, b, deed{from: 2, to: 1, n: 1}, 0, api.ErrNone)
	}
	wantList(t, "Balances", b.Balances(), 24, 16)
	wantSteps(t, b, api.ErrNone, 0, 31, 32)
}

// P10.3: a task that moves takes the locks of both its accounts, the lowest
// one first, acts while it holds them, and gives both back at once.
func TestStepsOfMove(t *testing.T) {
	for from := range 8 {
		for to := range 8 {
			b := making(t, 10, 10, 10, 10, 10, 10, 10, 10)
			wantBegin(t, b, deed{from: from, to: to, n: 3}, 0, api.OK)
			holders := []int{-1, -1, -1, -1}
			wantHolders(t, b, holders...)
			for _, s := range slices.Compact([]int{min(from%4, to%4), max(from%4, to%4)}) {
				wantSteps(t, b, api.OK, 0)
				holders[s] = 0
				wantHolders(t, b, holders...)
				wantNoResult(t, b, 0)
				wantList(t, "Done", b.Done())
				wantList(t, "Balances", b.Balances(), 10, 10, 10, 10, 10, 10, 10, 10)
			}
			wantSteps(t, b, api.OK, 0)
			wantHolders(t, b, holders...)
			wantResult(t, b, 0, api.OK)
			wantList(t, "Done", b.Done(), 0)
			wantList(t, "Told", b.Told(0))
			balances := slices.Repeat([]uint64{10}, 8)
			balances[from] -= 3
			balances[to] += 3
			wantList(t, "Balances", b.Balances(), balances...)
			wantSteps(t, b, api.OK, 0)
			wantHolders(t, b, -1, -1, -1, -1)
			wantSteps(t, b, api.ErrNone, 0, 0)
			wantResult(t, b, 0, api.OK)
			wantList(t, "Done", b.Done(), 0)
			wantList(t, "Balances", b.Balances(), balances...)
		}
	}
}

// P10.3: a task that lists takes all four locks, of shards without accounts as
// well, is told all balances, and keeps what it was told.
func TestStepsOfList(t *testing.T) {
	for n := 1; n <= 9; n++ {
		l := make([]uint64, n)
		for a := range l {
			l[a] = uint64(a + 1)
		}
		b := making(t, l...)
		wantBegin(t, b, deed{lists: true}, 0, api.OK)
		holders := []int{-1, -1, -1, -1}
		for s := range holders {
			wantSteps(t, b, api.OK, 0)
			holders[s] = 0
			wantHolders(t, b, holders...)
			wantNoResult(t, b, 0)
			wantList(t, "Done", b.Done())
		}
		wantSteps(t, b, api.OK, 0)
		wantHolders(t, b, holders...)
		wantResult(t, b, 0, api.OK)
		wantList(t, "Told", b.Told(0), l...)
		wantList(t, "Done", b.Done(), 0)
		wantSteps(t, b, api.OK, 0)
		wantHolders(t, b, -1, -1, -1, -1)
		wantSteps(t, b, api.ErrNone, 0)
		wantBegin(t, b, deed{from: 0, to: n - 1, n: 1}, 1, api.OK)
		for b.Step(1) == api.OK {
		}
		wantList(t, "Told", b.Told(0), l...)
		wantList(t, "Told by one that moves", b.Told(1))
	}
}

// P10.3: who is blocked stays so, keeps what it holds, and goes on as soon as
// the lock is given back; nobody waits in a row.
func TestBlocked(t *testing.T) {
	b := making(t, 10, 10, 10, 10)
	wantBegin(t, b, deed{from: 2, to: 1, n: 1}, 0, api.OK) // shards 1, 2
	wantBegin(t, b, deed{from: 3, to: 2, n: 2}, 1, api.OK) // shards 2, 3
	wantBegin(t, b, deed{lists: true}, 2, api.OK)
	wantBegin(t, b, deed{from: 0, to: 3, n: 3}, 3, api.OK) // shards 0, 3
	wantSteps(t, b, api.OK, 1, 0, 2)
	wantHolders(t, b, 2, 0, 1, -1)
	for range 3 {
		wantSteps(t, b, api.ErrLock, 0, 2, 3)
		wantHolders(t, b, 2, 0, 1, -1)
		wantNoResult(t, b, 0, 1, 2, 3)
	}
	wantSteps(t, b, api.OK, 1, 1)
	wantHolders(t, b, 2, 0, 1, 1)
	wantSteps(t, b, api.ErrLock, 0, 2, 3)
	wantResult(t, b, 1, api.OK)
	wantSteps(t, b, api.OK, 1)
	wantHolders(t, b, 2, 0, -1, -1)
	wantSteps(t, b, api.ErrLock, 2, 3)
	wantSteps(t, b, api.OK, 0, 0, 0)
	wantSteps(t, b, api.ErrLock, 3)
	wantSteps(t, b, api.OK, 2, 2, 2, 2)
	wantSteps(t, b, api.ErrLock, 3)
	wantSteps(t, b, api.OK, 2, 3, 3, 3, 3)
	wantHolders(t, b, -1, -1, -1, -1)
	wantSteps(t, b, api.ErrNone, 0, 1, 2, 3)
	wantList(t, "Done", b.Done(), 1, 0, 2, 3)
	wantList(t, "Told", b.Told(2), 10, 11, 11, 8)
	wantList(t, "Balances", b.Balances(), 7, 11, 11, 11)
}

// P10.3: tasks that have no shard in common do not block each other, and
// accounts of one shard do.
func TestApart(t *testing.T) {
	b := making(t, 10, 10, 10, 10, 10)
	wantBegin(t, b, deed{from: 0, to: 2, n: 1}, 0, api.OK)
	wantBegin(t, b, deed{from: 3, to: 1, n: 1}, 1, api.OK)
	wantBegin(t, b, deed{from: 4, to: 4, n: 1}, 2, api.OK)
	wantSteps(t, b, api.OK, 0, 1, 0, 1)
	wantHolders(t, b, 0, 1, 0, 1)
	wantSteps(t, b, api.ErrLock, 2)
	wantSteps(t, b, api.OK, 1, 0, 0)
	wantSteps(t, b, api.OK, 2)
	wantHolders(t, b, 2, 1, -1, 1)
	wantSteps(t, b, api.OK, 2, 1)
	wantList(t, "Done", b.Done(), 1, 0, 2)
	wantList(t, "Balances", b.Balances(), 9, 11, 11, 9, 10)
}

// P10.3, P10.4: a result is what Move answers as the task acts, not as it
// begins; one that goes wrong gives its locks back as well.
func TestResults(t *testing.T) {
	b := making(t, 5, 0)
	for id, d := range []deed{
		{from: 0, to: 1, n: 5}, {from: 0, to: 1, n: 5}, {from: 1, to: 0, n: 5},
		{from: 0, to: 1, n: 0}, {from: 1, to: 1, n: 1}, {from: 0, to: 0, n: 5}, {from: 0, to: 1, n: last},
	} {
		wantBegin(t, b, d, id, api.OK)
	}
	run := func(id int, want api.Errno) {
		t.Helper()
		for b.Step(id) == api.OK {
		}
		wantResult(t, b, id, want)
		wantHolders(t, b, -1, -1, -1, -1)
		wantList(t, "Told", b.Told(id))
	}
	run(2, api.ErrFunds)
	wantList(t, "Balances", b.Balances(), 5, 0)
	run(0, api.OK)
	wantList(t, "Balances", b.Balances(), 0, 5)
	run(1, api.ErrFunds)
	run(3, api.ErrArg)
	run(4, api.OK)
	run(5, api.ErrFunds)
	run(6, api.ErrFunds)
	wantList(t, "Balances", b.Balances(), 0, 5)
	wantResult(t, b, 2, api.ErrFunds)
	wantList(t, "Done", b.Done(), 2, 0, 1, 3, 4, 5, 6)
}

// P10.4: of a task, or a shard, that is not there nothing is told.
func TestNotThere(t *testing.T) {
	b := making(t, 1)
	wantBegin(t, b, deed{lists: true}, 0, api.OK)
	wantSteps(t, b, api.OK, 0, 0, 0, 0, 0)
	wantSteps(t, b, api.ErrNone, append([]int{1, 31}, noNumbers...)...)
	wantNoResult(t, b, append([]int{1, 31}, noNumbers...)...)
	wantHolders(t, b, 0, 0, 0, 0)
	wantList(t, "Done", b.Done(), 0)
}

// TestExample is the document's own.
func TestExample(t *testing.T) {
	b := making(t, 5, 0)
	wantBegin(t, b, deed{from: 0, to: 1, n: 1}, 0, api.OK)
	wantBegin(t, b, deed{from: 0, to: 0, n: 1}, 1, api.OK)
	wantSteps(t, b, api.OK, 0)
	wantSteps(t, b, api.ErrLock, 1)
	wantHolders(t, b, 0, -1, -1, -1)
}

// anyBalances tells some balances, small ones or such as are MaxAmount in all.
func anyBalances(r *rand.Rand) []uint64 {
	l := make([]uint64, 1+r.Intn([]int{3, 9, most}[r.Intn(3)]))
	greatest := []int64{5, 60, top/int64(len(l)) + 1}[r.Intn(3)]
	for a := range l {
		l[a] = uint64(r.Int63n(greatest))
	}
	return l
}

// anyDeed tells what a task may do: now and then what none may.
func anyDeed(r *rand.Rand, accounts int) deed {
	account := func() int {
		if r.Intn(20) == 0 {
			return append([]int{accounts}, noNumbers...)[r.Intn(len(noNumbers)+1)]
		}
		return r.Intn(accounts)
	}
	if r.Intn(4) == 0 {
		return deed{lists: true}
	}
	amounts := []uint64{0, 1, uint64(r.Intn(60)), r.Uint64() >> (14 + r.Intn(50)), r.Uint64()}
	return deed{from: account(), to: account(), n: amounts[r.Intn(len(amounts))]}
}

// wantOneByOne asks whether a purse on which the tasks are done one by one, in
// the order of Done, has the same results, lists and balances.
func wantOneByOne(t *testing.T, b *shard.Bank, l []uint64, deeds []deed) {
	t.Helper()
	p := purse.New(l)
	balances := func() (told []uint64) {
		for a := range l {
			n, _ := p.Balance(a)
			told = append(told, n)
		}
		return told
	}
	for _, id := range b.Done() {
		d := deeds[id]
		if d.lists {
			wantResult(t, b, id, api.OK)
			wantList(t, "Told, one by one", b.Told(id), balances()...)
			continue
		}
		wantResult(t, b, id, p.Move(d.from, d.to, d.n))
		wantList(t, "Told", b.Told(id))
	}
	wantList(t, "Balances, one by one", b.Balances(), balances()...)
}

// P10.1 to P10.5: any acts in any order are those of the model, on two banks
// that have nothing to do with each other.
func TestModel(t *testing.T) {
	r := rand.New(rand.NewSource(10))
	for run := range 200 {
		lists := [2][]uint64{anyBalances(r), anyBalances(r)}
		models := [2]*model{modelOf(lists[0]), modelOf(lists[1])}
		banks := [2]*shard.Bank{making(t, lists[0]...), making(t, lists[1]...)}
		for step := range 300 {
			i := r.Intn(2)
			b, m := banks[i], models[i]
			if r.Intn(6) == 0 {
				d := anyDeed(r, len(lists[i]))
				want, e := m.begin(d)
				wantBegin(t, b, d, want, e)
			} else {
				id := r.Intn(len(m.jobs)+2) - 1
				wantSteps(t, b, m.step(id), id)
			}
			for i, b := range banks {
				wantModel(t, b, models[i])
			}
			if t.Failed() {
				t.Fatalf("run %d, step %d", run, step)
			}
		}
		for i, b := range banks {
			deeds := make([]deed, len(models[i].jobs))
			for id, j := range models[i].jobs {
				deeds[id] = j.deed
			}
			wantOneByOne(t, b, lists[i], deeds)
		}
	}
}

// goesOn steps each of the tasks in an order of its own, and tells how many went on.
func goesOn(r *rand.Rand, b *shard.Bank, n int, over []bool) (went int) {
	for _, id := range r.Perm(n) {
		switch b.Step(id) {
		case api.OK:
			went++
		case api.ErrNone:
			over[id] = true
		}
	}
	return went
}

// P10.5: as long as some task is not over, one can go on: all of them end, and
// what they did is what the purse does one by one.
func TestAllEnd(t *testing.T) {
	r := rand.New(rand.NewSource(105))
	for range 300 {
		l := anyBalances(r)
		b := making(t, l...)
		var deeds []deed
		for len(deeds) < most {
			if d := anyDeed(r, len(l)); d.lists || max(d.from, d.to) < len(l) && min(d.from, d.to) >= 0 {
				wantBegin(t, b, d, len(deeds), api.OK)
				deeds = append(deeds, d)
			}
		}
		over := make([]bool, most)
		for goesOn(r, b, most, over) > 0 {
		}
		if slices.Contains(over, false) {
			t.Fatalf("nobody goes on, of %+v", deeds)
		}
		done := b.Done()
		wantOneByOne(t, b, l, deeds)
		slices.Sort(done)
		for id := range most {
			if done[id] != id {
				t.Fatalf("Done has not each once: %d", b.Done())
			}
		}
		wantHolders(t, b, -1, -1, -1, -1)
	}
}

// P10.5: who ends ahead of another one's beginning comes ahead of it in Done.
func TestEndsAhead(t *testing.T) {
	r := rand.New(rand.NewSource(1050))
	for range 300 {
		l := anyBalances(r)
		b, m := making(t, l...), modelOf(l)
		var ahead [most][]int // of each task those that were over as it began
		for range 400 {
			if r.Intn(8) > 0 {
				id := r.Intn(len(m.jobs) + 1)
				wantSteps(t, b, m.step(id), id)
				continue
			}
			d := anyDeed(r, len(l))
			id, e := m.begin(d)
			wantBegin(t, b, d, id, e)
			for was, j := range m.jobs {
				if e == api.OK && j.over {
					ahead[id] = append(ahead[id], was)
				}
			}
		}
		done := b.Done()
		for i, id := range done {
			for _, was := range ahead[id] {
				if !slices.Contains(done[:i], was) {
					t.Fatalf("%d ended ahead of the beginning of %d: %d", was, id, done)
				}
			}
		}
	}
}

// each tells every order of so many steps of two tasks.
func each(steps int, try func(order []int)) {
	for bits := range 1 << steps {
		order := make([]int, steps)
		for i := range order {
			order[i] = bits >> i & 1
		}
		try(order)
	}
}

// P10.5: two tasks in every order of their steps do what they do one by one,
// and come to the same as the model.
func TestEachOrder(t *testing.T) {
	l := []uint64{4, 3, 2, 1, 5}
	pairs := [][2]deed{
		{{from: 0, to: 1, n: 3}, {from: 1, to: 0, n: 5}},
		{{from: 0, to: 1, n: 3}, {from: 2, to: 3, n: 2}},
		{{from: 4, to: 3, n: 5}, {from: 3, to: 0, n: 6}},
		{{from: 0, to: 4, n: 4}, {from: 4, to: 0, n: 9}},
		{{lists: true}, {from: 2, to: 1, n: 2}},
		{{lists: true}, {lists: true}},
	}
	for _, pair := range pairs {
		each(10, func(order []int) {
			b, m := making(t, l...), modelOf(l)
			for id, d := range pair {
				m.begin(d)
				wantBegin(t, b, d, id, api.OK)
			}
			for _, id := range order {
				wantSteps(t, b, m.step(id), id)
			}
			wantModel(t, b, m)
			wantOneByOne(t, b, l, pair[:])
		})
	}
}

// Of a bank that New did not make the document says nothing: no call panics,
// and it has no accounts.
func TestNoBank(t *testing.T) {
	for _, b := range []*shard.Bank{nil, {}} {
		for _, i := range append([]int{0, 1, 31}, noNumbers...) {
			wantBegin(t, b, deed{from: i, to: i, n: 1}, 0, api.ErrNone)
			wantSteps(t, b, api.ErrNone, i)
		}
		wantModel(t, b, modelOf(nil))
		b.List()
		for range 7 {
			b.Step(0)
		}
		wantList(t, "Told", b.Told(0))
		wantList(t, "Balances", b.Balances())
		wantHolders(t, b, -1, -1, -1, -1)
	}
}
