package tests

import (
	"slices"
	"testing"

	"loop.example/bedstone/impl"
)

// Each gatherer, each show and each code is what the document's words ask for, and plays meet all codes.
func TestPutIsWhatTheDocumentSays(t *testing.T) {
	met := map[int]int{}
	for _, p := range append(shortPlays(), somePlays(1, 210)...) {
		want := newGatherer(len(p.ins))
		g := mustNew(t, p.ins...)
		for _, f := range p.feeds {
			then, show, code := impl.GatherPut(g, f)
			wantShow, wantCode := want.put(f)
			met[code]++
			if code != wantCode || !sameShow(show, wantShow) {
				t.Fatalf("%v put into %v: %v %d, want %v %d", f, g, show, code, wantShow, wantCode)
			}
			left := impl.Gather{Ins: p.ins, Wins: want.wins(), Shown: want.shown.marks()}
			if code == impl.GatherBad {
				if !isNoGather(then) {
					t.Fatalf("%v put into %v: bad, and %v", f, g, then)
				}
				then = g
			}
			if !sameGather(then, left) || !impl.GatherOk(then) {
				t.Fatalf("%v put into %v: %d leaves %v, want %v", f, g, code, then, left)
			}
			g = then
		}
	}
	for code := impl.GatherKept; code <= impl.GatherFull; code++ {
		if met[code] < 200 {
			t.Errorf("the plays meet the code %d but %d times", code, met[code])
		}
	}
}

// inWindow tells whether an item with that value, and just those versions of its sources that the stamp has, is in a window.
func inWindow(w []impl.Item, val int, stamp versions) bool {
	return slices.ContainsFunc(w, func(it impl.Item) bool {
		for _, m := range it.Stamp {
			if stamp[m.Src] != m.Ver {
				return false
			}
		}
		return it.Val == val
	})
}

func TestP1ShownIsOfTheWindows(t *testing.T) {
	shown := 0
	for _, p := range append(shortPlays(), somePlays(2, 420)...) {
		shows, codes := impl.GatherPlay(p.ins, p.feeds)
		inputs := make([]taken, len(p.ins))
		for i, f := range p.feeds {
			if codes[i] != impl.GatherBad && codes[i] != impl.GatherOld {
				inputs[f.In] = append(inputs[f.In], f.Item)
			}
			if codes[i] != impl.GatherShows {
				continue
			}
			show := shows[0]
			shows = shows[1:]
			shown++
			if !impl.StampOk(show.Stamp) || len(show.Vals) != len(p.ins) {
				t.Fatalf("%v shows %v", p, show)
			}
			sources := versions{}
			for in, all := range inputs {
				if !inWindow(all.window(), show.Vals[in], versionsOf(show.Stamp)) {
					t.Fatalf("%v shows %v: there is no such item in %v", p, show, all.window())
				}
				sources = sources.joined(versionsOf(all[0].Stamp))
			}
			if len(sources) != len(show.Stamp) {
				t.Fatalf("%v shows %v of the sources %v", p, show, sources)
			}
		}
		if len(shows) != 0 {
			t.Fatalf("%v shows %v with no code of it", p, shows)
		}
	}
	if shown < 1000 {
		t.Errorf("only %d were shown", shown)
	}
}

func TestP2ShownRisesStrictly(t *testing.T) {
	for _, p := range append(shortPlays(), somePlays(3, 420)...) {
		shows, _ := impl.GatherPlay(p.ins, p.feeds)
		last := versions{}
		for _, show := range shows {
			v := versionsOf(show.Stamp)
			if !last.notAbove(v) || v.notAbove(last) {
				t.Fatalf("%v shows %v behind %v", p, v, last)
			}
			last = v
		}
	}
}

func TestP2ShownIsNotBelowWhatAgrees(t *testing.T) {
	for _, p := range append(shortPlays(), somePlays(4, 140)...) {
		g := mustNew(t, p.ins...)
		for _, f := range p.feeds {
			then, _, code := impl.GatherPut(g, f)
			if code == impl.GatherBad {
				continue
			}
			g = then
			shown := versionsOf(g.Shown)
			for _, pick := range agreeing(g.Wins) {
				join := joinOfPick(g.Wins, pick)
				if len(join) <= impl.StampMaxSrc && shown.notAbove(join) && !join.notAbove(shown) {
					t.Fatalf("%v behind %v: shown is %v, and the choice %v of %v has the join %v", p, f, shown, pick, g.Wins, join)
				}
			}
		}
	}
}

// Once more at once, and once more behind all other feeds.
func TestP9AFeedOnceMore(t *testing.T) {
	for _, p := range append(shortPlays(), somePlays(5, 420)...) {
		g := mustNew(t, p.ins...)
		var took []impl.Feed
		for _, f := range p.feeds {
			then, _, code := impl.GatherPut(g, f)
			if code == impl.GatherBad {
				continue
			}
			if code != impl.GatherOld {
				took = append(took, f)
			}
			g = then
			if again, _ := mustPut(t, g, f, impl.GatherOld); !sameGather(again, g) {
				t.Fatalf("%v once more turns %v into %v", f, g, again)
			}
		}
		for _, f := range took {
			if again, _ := mustPut(t, g, f, impl.GatherOld); !sameGather(again, g) {
				t.Fatalf("%v at the end turns %v into %v", f, g, again)
			}
		}
	}
}

func TestP9APlayIsItsFeedsOneByOne(t *testing.T) {
	for _, p := range append(shortPlays(), somePlays(6, 420)...) {
		g := mustNew(t, p.ins...)
		var wantShows []impl.Show
		var wantCodes []int
		for _, f := range p.feeds {
			then, show, code := impl.GatherPut(g, f)
			wantCodes = append(wantCodes, code)
			if code == impl.GatherShows {
				wantShows = append(wantShows, show)
			}
			if code != impl.GatherBad {
				g = then
			}
		}
		shows, codes := impl.GatherPlay(p.ins, p.feeds)
		if !slices.EqualFunc(shows, wantShows, sameShow) || !slices.Equal(codes, wantCodes) {
			t.Fatalf("%v: %v %v, and one by one %v %v", p, shows, codes, wantShows, wantCodes)
		}
	}
}

func TestP9ABeginningShowsTheBeginning(t *testing.T) {
	for _, p := range append(shortPlays(), somePlays(7, 84)...) {
		shows, codes := impl.GatherPlay(p.ins, p.feeds)
		for size := range p.feeds {
			begins, beginCodes := impl.GatherPlay(p.ins, p.feeds[:size])
			if len(beginCodes) != size || !slices.Equal(beginCodes, codes[:size]) {
				t.Fatalf("%v: the first %d have the codes %v, all have %v", p, size, beginCodes, codes)
			}
			if len(begins) > len(shows) || !slices.EqualFunc(begins, shows[:len(begins)], sameShow) {
				t.Fatalf("%v: the first %d show %v, all show %v", p, size, begins, shows)
			}
		}
	}
}
