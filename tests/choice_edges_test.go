package tests

import (
	"math"
	"slices"
	"strconv"
	"testing"

	"loop.example/bedstone/impl"
)

// apartWindows are windows of four items each, no two of which share a source.
func apartWindows(count int) [][]impl.Item {
	var wins [][]impl.Item
	for i := range count {
		var w []impl.Item
		for place := range impl.WinMax {
			w = append(w, impl.Item{Val: place, Stamp: []impl.Mark{{Src: "w" + strconv.Itoa(i), Ver: 1 + place}}})
		}
		wins = append(wins, w)
	}
	return wins
}

// checkNoChoice asks all functions where no choice is.
func checkNoChoice(t *testing.T, what string, wins [][]impl.Item) {
	t.Helper()
	if got := impl.ChoiceCount(wins); got != 0 {
		t.Errorf("%s: count %d", what, got)
	}
	if got, ok := impl.ChoiceBest(wins); ok || len(got) != 0 {
		t.Errorf("%s: best %v %v", what, got, ok)
	}
	for places := range 8 {
		for _, place := range []int{-1, 0, 3} {
			checkNoPick(t, what, wins, slices.Repeat([]int{place}, places))
		}
	}
}

func checkNoPick(t *testing.T, what string, wins [][]impl.Item, pick []int) {
	t.Helper()
	if impl.ChoiceAgrees(wins, pick) {
		t.Errorf("%s: %v agrees", what, pick)
	}
	if got, ok := impl.ChoiceJoin(wins, pick); ok || len(got) != 0 {
		t.Errorf("%s: the join of %v is %v %v", what, pick, got, ok)
	}
}

func TestLimitOfChoices(t *testing.T) {
	if impl.ChoiceMaxIn != 6 {
		t.Error("limit")
	}
	for count := 1; count <= 6; count++ {
		wins := apartWindows(count)
		if got := impl.ChoiceCount(wins); got != 1<<(2*count) {
			t.Errorf("%d windows: count %d", count, got)
		}
		lasts := slices.Repeat([]int{3}, count)
		if best, ok := impl.ChoiceBest(wins); !ok || !slices.Equal(best, lasts) {
			t.Errorf("%d windows: best %v %v", count, best, ok)
		}
		if join, ok := impl.ChoiceJoin(wins, lasts); !impl.ChoiceAgrees(wins, lasts) || !ok || len(join) != count {
			t.Errorf("%d windows: join %v %v", count, join, ok)
		}
	}
}

func TestNoneAndTooManyWindows(t *testing.T) {
	checkNoChoice(t, "nil", nil)
	checkNoChoice(t, "none", [][]impl.Item{})
	checkNoChoice(t, "seven", apartWindows(7))
	checkNoChoice(t, "seven alike", slices.Repeat([][]impl.Item{items(t, "x:1")}, 7))
	checkNoChoice(t, "seven, the last one empty", append(apartWindows(6), nil))
}

func TestAnEmptyWindowAmongOthers(t *testing.T) {
	checkNoChoice(t, "alone", [][]impl.Item{nil})
	checkNoChoice(t, "all", [][]impl.Item{nil, {}, nil, {}, nil, {}})
	for place := range 6 {
		wins := apartWindows(6)
		wins[place] = nil
		checkNoChoice(t, "at "+strconv.Itoa(place), wins)
	}
	wins := [][]impl.Item{items(t, "x:1"), nil, items(t, "x:1")}
	checkNoChoice(t, "between two that agree", wins)
	checkNoPick(t, "a pick past it", wins, []int{0, 0})
}

func TestWhatIsNoWindowAmongOthers(t *testing.T) {
	for what, bad := range badWindows(t) {
		checkNoChoice(t, what, [][]impl.Item{bad})
		checkNoChoice(t, what+", first", append([][]impl.Item{bad}, apartWindows(5)...))
		checkNoChoice(t, what+", last", append(apartWindows(5), bad))
		checkNoChoice(t, what+", by an empty one", [][]impl.Item{nil, bad})
	}
}

func TestPicks(t *testing.T) {
	wins := [][]impl.Item{items(t, "x:1"), items(t, "y:1", "y:2"), items(t, "z:1", "z:2", "z:3", "z:4")}
	for _, pick := range [][]int{{0, 0, 0}, {0, 1, 3}, {0, 0, 3}, {0, 1, 0}} {
		join, ok := impl.ChoiceJoin(wins, pick)
		want := []impl.Mark{{Src: "x", Ver: 1}, {Src: "y", Ver: 1 + pick[1]}, {Src: "z", Ver: 1 + pick[2]}}
		if !impl.ChoiceAgrees(wins, pick) || !ok || !sameMarks(join, want) {
			t.Errorf("%v: %v %v", pick, join, ok)
		}
	}
	for _, pick := range [][]int{
		nil, {}, {0}, {0, 0}, {0, 0, 0, 0}, {0, 0, 0, 0, 0, 0, 0},
		{1, 0, 0}, {0, 2, 0}, {0, 0, 4}, {0, 1, 4}, {-1, 0, 0}, {0, -1, 0}, {0, 0, -1},
		{math.MaxInt, 0, 0}, {0, math.MinInt, 0}, {0, 0, math.MaxInt}, {4, 4, 4}, {-1, -1, -1},
	} {
		checkNoPick(t, "pick", wins, pick)
	}
	checkNoPick(t, "many", wins, make([]int, 100000))
}

func TestJoinOfChoicesAtTheLimit(t *testing.T) {
	twelve := [][]impl.Item{{{Stamp: row("abcdef", 1)}}, {{Stamp: row("fghijkl", 1)}}}
	if join, ok := impl.ChoiceJoin(twelve, []int{0, 0}); !ok || !sameMarks(join, row("abcdefghijkl", 1)) {
		t.Errorf("twelve: %v %v", join, ok)
	}
	for _, wins := range [][][]impl.Item{
		{{{Stamp: row("abcdef", 1)}}, {{Stamp: row("fghijklm", 1)}}},
		{{{Stamp: row("abcdefghijkl", 1)}}, {{Stamp: row("lm", 1)}}},
		{{{Stamp: row("abcdefghijkl", 1)}}, {{Stamp: row("a", 1)}}, {{Stamp: row("z", 1)}}},
		{{{Stamp: row("z", 1)}}, {{Stamp: row("a", 1)}}, {{Stamp: row("abcdefghijkl", 1)}}},
		{{{Stamp: row("abcdefghijkl", 1)}}, {{Stamp: row("mnopqrstuvwx", 1)}}},
	} {
		pick := make([]int, len(wins))
		if join, ok := impl.ChoiceJoin(wins, pick); ok || len(join) != 0 {
			t.Errorf("%v: %v %v", wins, join, ok)
		}
		best, ok := impl.ChoiceBest(wins)
		if !impl.ChoiceAgrees(wins, pick) || impl.ChoiceCount(wins) != 1 || !ok || !slices.Equal(best, pick) {
			t.Errorf("%v agrees, though its join doesn't fit", wins)
		}
	}
}

// The last items disagree one behind the other, so that each step back asks for the next one.
func TestBestStepsBackAllTheWay(t *testing.T) {
	a := items(t, "x:1 y:1", "x:2 y:2", "x:3 y:3", "x:4 y:4")
	b := items(t, "y:1 z:1", "y:2 z:2", "y:3 z:3", "y:4 z:4")
	c := items(t, "x:1 z:1", "x:1 z:2", "x:1 z:3", "x:1 z:4")
	wins := [][]impl.Item{a, b, c}
	if best, ok := impl.ChoiceBest(wins); !ok || !slices.Equal(best, []int{0, 0, 0}) || impl.ChoiceCount(wins) != 1 {
		t.Errorf("best %v %v of %d", best, ok, impl.ChoiceCount(wins))
	}
	for i := range c {
		c[i].Stamp[0].Ver = 5
	}
	checkNoPick(t, "all places 0", wins, []int{0, 0, 0})
	if best, ok := impl.ChoiceBest(wins); ok || len(best) != 0 || impl.ChoiceCount(wins) != 0 {
		t.Errorf("best %v %v", best, ok)
	}
}

func TestBestAtTheGreatestVersions(t *testing.T) {
	w := longestWindow()
	wins := [][]impl.Item{w, w, w, w, w, w}
	best, ok := impl.ChoiceBest(wins)
	if !ok || !slices.Equal(best, []int{3, 3, 3, 3, 3, 3}) || impl.ChoiceCount(wins) != 4 {
		t.Errorf("best %v %v of %d", best, ok, impl.ChoiceCount(wins))
	}
	wins[5] = w[:1]
	if best, ok := impl.ChoiceBest(wins); !ok || !slices.Equal(best, make([]int, 6)) || impl.ChoiceCount(wins) != 1 {
		t.Errorf("best %v %v", best, ok)
	}
}

func TestAnswersOfChoicesAreNewMemory(t *testing.T) {
	for _, w := range memoryWindows(t) {
		one, wholeOne := guardedItems(w)
		two, wholeTwo := guardedItems(items(t, "x:1 z:1", "x:2 z:1"))
		all := [][]impl.Item{one, two, items(t, "guard:1")}
		picks := []int{0, 0, -7}
		want, wantTwo := roomOf(wholeOne), roomOf(wholeTwo)
		join, _ := impl.ChoiceJoin(all[:2], picks[:2])
		best, _ := impl.ChoiceBest(all[:2])
		impl.ChoiceAgrees(all[:2], picks[:2])
		impl.ChoiceCount(all[:2])
		scribble(join)
		best = best[:cap(best)]
		for i := range best {
			best[i] = -1
		}
		if !sameItems(roomOf(wholeOne), want) || !sameItems(roomOf(wholeTwo), wantTwo) {
			t.Fatalf("%v: an argument was written into", w)
		}
		if !slices.Equal(picks, []int{0, 0, -7}) {
			t.Fatalf("%v: the picks are %v", w, picks)
		}
		if !sameItems(all[0], w) || !sameItems(all[1], wholeTwo[:2]) || !sameItems(all[2], items(t, "guard:1")) {
			t.Fatalf("%v: the windows are %v", w, all)
		}
	}
}
