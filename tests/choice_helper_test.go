package tests

import (
	"math/rand"
	"slices"
	"strconv"

	"loop.example/bedstone/impl"
)

// allPicks are all choices of windows; none when one is empty.
func allPicks(wins [][]impl.Item) [][]int {
	all := [][]int{nil}
	for _, w := range wins {
		var more [][]int
		for _, pick := range all {
			for place := range w {
				more = append(more, append(slices.Clone(pick), place))
			}
		}
		all = more
	}
	return all
}

// agreesInPairs holds each two items of a choice against each other, as the document says it.
func agreesInPairs(wins [][]impl.Item, pick []int) bool {
	for i := range wins {
		for j := range i {
			if !versionsOf(wins[i][pick[i]].Stamp).agrees(versionsOf(wins[j][pick[j]].Stamp)) {
				return false
			}
		}
	}
	return true
}

// agreeing are the choices that agree.
func agreeing(wins [][]impl.Item) [][]int {
	var picks [][]int
	for _, pick := range allPicks(wins) {
		if agreesInPairs(wins, pick) {
			picks = append(picks, pick)
		}
	}
	return picks
}

// laterOf has the later place of two choices in each window.
func laterOf(a []int, b []int) []int {
	later := slices.Clone(a)
	for i, place := range b {
		later[i] = max(later[i], place)
	}
	return later
}

// joinOfPick is the join of a choice's stamps, by versions.
func joinOfPick(wins [][]impl.Item, pick []int) versions {
	join := versions{}
	for i, place := range pick {
		join = join.joined(versionsOf(wins[i][place].Stamp))
	}
	return join
}

// someWindows are 1 to ChoiceMaxIn windows of sources that several may have; versions rise so seldom that many choices agree.
func someWindows(next *rand.Rand, sources int, grow int) [][]impl.Item {
	var wins [][]impl.Item
	for range 1 + next.Intn(impl.ChoiceMaxIn) {
		v := versions{}
		for range 1 + next.Intn(3) {
			v["s"+strconv.Itoa(next.Intn(sources))] = 1 + next.Intn(2)
		}
		var w []impl.Item
		for len(w) < 1+next.Intn(impl.WinMax) {
			w = append(w, impl.Item{Val: next.Int(), Stamp: v.marks()})
			names := v.marks()
			for range 1 + next.Intn(grow) {
				v[names[next.Intn(len(names))].Src]++
			}
		}
		wins = append(wins, w)
	}
	return wins
}
