package tests

import (
	"math/rand"
	"slices"
	"testing"

	"loop.example/bedstone/impl"
)

// eachWins goes through all pairs of small windows, all triples of those with one or two sources, and many others.
func eachWins(check func(wins [][]impl.Item)) {
	small := smallWindows(3)
	for _, a := range small {
		check([][]impl.Item{a})
		for _, b := range small {
			check([][]impl.Item{a, b})
		}
	}
	smaller := smallWindows(2)
	for _, a := range smaller {
		for _, b := range smaller {
			for _, c := range smaller {
				check([][]impl.Item{a, b, c})
			}
		}
	}
	next := rand.New(rand.NewSource(8))
	for i := range 3000 {
		check(someWindows(next, 2+i%9, 1+i%3))
	}
}

// The count and the greatest choice are those of going through all.
func TestP8CountAndBest(t *testing.T) {
	eachWins(func(wins [][]impl.Item) {
		picks := agreeing(wins)
		if got := impl.ChoiceCount(wins); got != len(picks) {
			t.Fatalf("%v: %d choices agree, want %d", wins, got, len(picks))
		}
		best, ok := impl.ChoiceBest(wins)
		if ok != (len(picks) > 0) || !ok && len(best) != 0 {
			t.Fatalf("%v: best %v %v, of %v", wins, best, ok, picks)
		}
		if !ok {
			return
		}
		if !slices.ContainsFunc(picks, func(pick []int) bool { return slices.Equal(pick, best) }) {
			t.Fatalf("%v: best %v is none of %v", wins, best, picks)
		}
		for _, pick := range picks {
			if !slices.Equal(laterOf(pick, best), best) {
				t.Fatalf("%v: best %v is ahead of %v", wins, best, pick)
			}
		}
	})
}

func TestP8LaterOfTwoAgrees(t *testing.T) {
	next := rand.New(rand.NewSource(9))
	for i := range 300 {
		wins := someWindows(next, 2+i%9, 1+i%3)
		var picks [][]int
		for _, pick := range allPicks(wins) {
			if impl.ChoiceAgrees(wins, pick) {
				picks = append(picks, pick)
			}
		}
		for range 200 {
			if len(picks) == 0 {
				break
			}
			a, b := picks[next.Intn(len(picks))], picks[next.Intn(len(picks))]
			if later := laterOf(a, b); !impl.ChoiceAgrees(wins, later) {
				t.Fatalf("%v: %v and %v agree, %v doesn't", wins, a, b, later)
			}
		}
	}
}

func TestP8AgreesIsWhatTheDocumentSays(t *testing.T) {
	small := smallWindows(3)
	for _, a := range small {
		for _, b := range small {
			checkAgreesAndJoin(t, [][]impl.Item{a, b})
		}
	}
	next := rand.New(rand.NewSource(10))
	for i := range 300 {
		checkAgreesAndJoin(t, someWindows(next, 2+i%20, 1+i%3))
	}
}

func checkAgreesAndJoin(t *testing.T, wins [][]impl.Item) {
	t.Helper()
	for _, pick := range allPicks(wins) {
		agrees := agreesInPairs(wins, pick)
		if got := impl.ChoiceAgrees(wins, pick); got != agrees {
			t.Fatalf("%v: ChoiceAgrees with %v: %v", wins, pick, got)
		}
		want := joinOfPick(wins, pick).marks()
		fits := agrees && len(want) <= impl.StampMaxSrc
		if !fits {
			want = nil
		}
		if got, ok := impl.ChoiceJoin(wins, pick); ok != fits || !sameMarks(got, want) {
			t.Fatalf("%v: ChoiceJoin with %v: %v %v, want %v %v", wins, pick, got, ok, want, fits)
		}
	}
}

// In whatever order windows are told, the greatest choice has the same items.
func TestP8OrderOfWindows(t *testing.T) {
	next := rand.New(rand.NewSource(11))
	for i := range 1000 {
		wins := someWindows(next, 2+i%9, 1+i%3)
		best, ok := impl.ChoiceBest(wins)
		count := impl.ChoiceCount(wins)
		slices.Reverse(wins)
		turned, okTurned := impl.ChoiceBest(wins)
		slices.Reverse(turned)
		if ok != okTurned || !slices.Equal(best, turned) || count != impl.ChoiceCount(wins) {
			t.Fatalf("%v: %v %v, and told from the end %v %v", wins, best, ok, turned, okTurned)
		}
	}
}
