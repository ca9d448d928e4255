package htlc_test

import (
	"math"
	"math/rand"
	"slices"
	"testing"

	"remitter/htlc"
)

// noStates are numbers that no state has.
var noStates = []int{-1, -2, -5, -9, -10, 10, 11, 14, 99, 1 << 31, 1 << 32, 1<<32 + 4, -1 << 32, math.MinInt, math.MinInt + 1, math.MaxInt - 1, math.MaxInt}

// noEvents are numbers that no event has.
var noEvents = []int{0, -1, -2, -3, -4, 5, 6, 7, 8, 9, 10, 1<<8 + 1, 1<<32 + 1, 1 << 32, math.MinInt, math.MaxInt}

// events are all that happens in a channel.
var events = []int{htlc.WeSign, htlc.TheyRevoke, htlc.TheySign, htlc.WeRevoke}

// ways are of an Htlc that we offered, and of one that they did.
var ways = []bool{true, false}

// A column of the document's table: the states that an event ends there, and
// that event, of an own Htlc and of theirs.
type column struct {
	from        [2]int
	own, theirs int
}

var table = []column{
	{[2]int{0, 7}, htlc.WeSign, htlc.TheySign},
	{[2]int{1, 8}, htlc.TheyRevoke, htlc.WeRevoke},
	{[2]int{2, 5}, htlc.TheySign, htlc.WeSign},
	{[2]int{3, 6}, htlc.WeRevoke, htlc.TheyRevoke},
}

// eventOf tells the event that takes a state on, by the document's table, if
// there is one.
func eventOf(state int, own bool) (int, bool) {
	for _, c := range table {
		if !slices.Contains(c.from[:], state) {
			continue
		}
		if own {
			return c.own, true
		}
		return c.theirs, true
	}
	return 0, false
}

// mirrored tells what an event is to the other end.
func mirrored(event int) int {
	switch event {
	case htlc.WeSign:
		return htlc.TheySign
	case htlc.TheySign:
		return htlc.WeSign
	case htlc.WeRevoke:
		return htlc.TheyRevoke
	case htlc.TheyRevoke:
		return htlc.WeRevoke
	}
	return event
}

// wantNext asks for the state behind an event.
func wantNext(t *testing.T, state int, own bool, event, want int) {
	t.Helper()
	if n := htlc.Next(state, own, event); n != want {
		t.Errorf("Next(%d, %t, %d): %d; want %d", state, own, event, n, want)
	}
}

// wantIn asks which commitments have it, and out of which it was taken again.
func wantIn(t *testing.T, state int, own, ours, theirs, outOfOurs, outOfTheirs bool) {
	t.Helper()
	if is := htlc.Ours(state, own); is != ours {
		t.Errorf("Ours(%d, %t): %t", state, own, is)
	}
	if is := htlc.Theirs(state, own); is != theirs {
		t.Errorf("Theirs(%d, %t): %t", state, own, is)
	}
	if a, b := htlc.Settled(state, own); a != outOfOurs || b != outOfTheirs {
		t.Errorf("Settled(%d, %t): %t, %t; want %t, %t", state, own, a, b, outOfOurs, outOfTheirs)
	}
}

// walk takes a state on by events, one behind the other, and wants one more of each.
func walk(t *testing.T, from int, own bool, l ...int) int {
	t.Helper()
	state := from
	for _, event := range l {
		wantNext(t, state, own, event, state+1)
		state = htlc.Next(state, own, event)
	}
	return state
}

// P11.1: the events and states have the numbers that the document tells.
func TestNumbers(t *testing.T) {
	got := []int{htlc.WeSign, htlc.TheyRevoke, htlc.TheySign, htlc.WeRevoke, htlc.Offered, htlc.Both, htlc.Removed, htlc.Gone}
	if want := []int{1, 2, 3, 4, 0, 4, 5, 9}; !slices.Equal(got, want) {
		t.Errorf("%d; want %d", got, want)
	}
}

// P11.1: the examples.
func TestExamples(t *testing.T) {
	wantNext(t, 0, true, htlc.WeSign, 1)
	wantNext(t, 0, true, htlc.TheySign, 0)
}

// P11.1: each state goes on by its own event, and by no other one.
func TestNext(t *testing.T) {
	for state := htlc.Offered; state <= htlc.Gone; state++ {
		for _, own := range ways {
			turn, is := eventOf(state, own)
			for _, event := range events {
				want := state
				if is && event == turn {
					want = state + 1
				}
				wantNext(t, state, own, event, want)
			}
		}
	}
}

// P11.1: what is in both stays there till it is removed, and what is gone stays so.
func TestNextRest(t *testing.T) {
	for _, state := range []int{htlc.Both, htlc.Gone} {
		for _, event := range append(slices.Clone(events), noEvents...) {
			wantNext(t, state, true, event, state)
			wantNext(t, state, false, event, state)
		}
	}
}

// P11.1: what is no event takes nothing on.
func TestNextNoEvent(t *testing.T) {
	for state := htlc.Offered; state <= htlc.Gone; state++ {
		for _, event := range noEvents {
			wantNext(t, state, true, event, state)
			wantNext(t, state, false, event, state)
		}
	}
}

// P11.1: what is no state stays what it is, whatever comes.
func TestNextNoState(t *testing.T) {
	for _, state := range noStates {
		for _, event := range append(slices.Clone(events), noEvents...) {
			wantNext(t, state, true, event, state)
			wantNext(t, state, false, event, state)
		}
	}
}

// P11.1: 0 to 9 may be, and nothing else.
func TestMay(t *testing.T) {
	for state := 0; state <= 9; state++ {
		if !htlc.May(state) {
			t.Errorf("May(%d): false", state)
		}
	}
	for _, state := range noStates {
		if htlc.May(state) {
			t.Errorf("May(%d): true", state)
		}
	}
}

// P11.2: theirs has an own one from 1 to 7, and ours from 3 to 5.
// P11.3: it is out of ours from 6 on, and of theirs from 8 on.
func TestInOwn(t *testing.T) {
	for state := 0; state <= 9; state++ {
		wantIn(t, state, true, state >= 3 && state <= 5, state >= 1 && state <= 7, state >= 6, state >= 8)
	}
}

// P11.2: ours has one of theirs from 1 to 7, and theirs from 3 to 5.
// P11.3: it is out of ours from 8 on, and of theirs from 6 on.
func TestInTheirs(t *testing.T) {
	for state := 0; state <= 9; state++ {
		wantIn(t, state, false, state >= 1 && state <= 7, state >= 3 && state <= 5, state >= 8, state >= 6)
	}
}

// P11.2, P11.3: what may not be is in none, and was taken out of none.
func TestInNone(t *testing.T) {
	for _, state := range noStates {
		wantIn(t, state, true, false, false, false, false)
		wantIn(t, state, false, false, false, false, false)
	}
}

// P11.4: from its offer to its end by eight events, and by whoever removes it;
// an own one is told by its events, one of theirs by the mirrored ones.
func TestWalk(t *testing.T) {
	comes := []int{htlc.WeSign, htlc.TheyRevoke, htlc.TheySign, htlc.WeRevoke}
	goes := []int{htlc.TheySign, htlc.WeRevoke, htlc.WeSign, htlc.TheyRevoke}
	for _, own := range ways {
		first, last := comes, goes
		if !own {
			first, last = goes, comes
		}
		if state := walk(t, htlc.Offered, own, first...); state != htlc.Both {
			t.Errorf("%t: it came up to %d", own, state)
		}
		if state := walk(t, htlc.Removed, own, last...); state != htlc.Gone {
			t.Errorf("%t: it went up to %d", own, state)
		}
	}
}

// P11.4: it is in neither at first, then in one, in both, in one, and in
// neither; and it is never in one that it was taken out of.
func TestCounts(t *testing.T) {
	for _, own := range ways {
		var counts []int
		for state := htlc.Offered; state <= htlc.Gone; state++ {
			n := 0
			outOfOurs, outOfTheirs := htlc.Settled(state, own)
			if htlc.Ours(state, own) {
				n++
			}
			if htlc.Theirs(state, own) {
				n++
			}
			if htlc.Ours(state, own) && outOfOurs || htlc.Theirs(state, own) && outOfTheirs {
				t.Errorf("%d, %t: in one that it was taken out of", state, own)
			}
			counts = append(counts, n)
		}
		if want := []int{0, 1, 1, 2, 2, 2, 1, 1, 0, 0}; !slices.Equal(counts, want) {
			t.Errorf("%t: in %d; want %d", own, counts, want)
		}
	}
}

// P11.4: a commitment changes by the Sign for it alone: theirs by ours, ours by theirs.
func TestSigns(t *testing.T) {
	for state := htlc.Offered; state <= htlc.Gone; state++ {
		for _, own := range ways {
			for _, event := range events {
				next := htlc.Next(state, own, event)
				if htlc.Theirs(state, own) != htlc.Theirs(next, own) && event != htlc.WeSign {
					t.Errorf("%d, %t, %d: theirs is another one", state, own, event)
				}
				if htlc.Ours(state, own) != htlc.Ours(next, own) && event != htlc.TheySign {
					t.Errorf("%d, %t, %d: ours is another one", state, own, event)
				}
			}
		}
	}
}

// P11.4: whatever happens, in any order, each event takes it on at most by one,
// never back, and never over the rest in both.
func TestAnyOrder(t *testing.T) {
	chance := rand.New(rand.NewSource(11))
	all := append(slices.Clone(events), noEvents...)
	for range 2000 {
		own, start := chance.Intn(2) == 0, htlc.Offered
		if chance.Intn(2) == 0 {
			start = htlc.Removed
		}
		state := start
		for range 60 {
			next := htlc.Next(state, own, all[chance.Intn(len(all))])
			if next != state && next != state+1 {
				t.Fatalf("%d to %d", state, next)
			}
			state = next
		}
		if state > start+htlc.Both {
			t.Fatalf("%d to %d", start, state)
		}
	}
}

// P11.1 to P11.3: what one end tells of its own Htlc is what the other one
// tells of theirs, of any state.
func TestMirror(t *testing.T) {
	for state := -3; state <= 12; state++ {
		for _, own := range ways {
			for event := -1; event <= 6; event++ {
				wantNext(t, state, !own, mirrored(event), htlc.Next(state, own, event))
			}
			ours, theirs := htlc.Settled(state, own)
			wantIn(t, state, !own, htlc.Theirs(state, own), htlc.Ours(state, own), theirs, ours)
		}
	}
}

// P11.4: two rounds of a Sign and a Revoke of each end bring an offer into both,
// whoever offered it, and an event that comes twice does no more than one.
func TestRounds(t *testing.T) {
	round := []int{htlc.WeSign, htlc.TheyRevoke, htlc.TheySign, htlc.WeRevoke}
	for _, own := range ways {
		state := htlc.Offered
		for _, event := range slices.Concat(round, round) {
			state = htlc.Next(state, own, event)
			state = htlc.Next(state, own, event)
		}
		if state != htlc.Both {
			t.Errorf("%t: %d", own, state)
		}
	}
}
