package tests

import (
	"math"
	"slices"
	"strconv"
	"testing"

	"loop.example/bedstone/impl"
)

func TestLimitsOfGatherers(t *testing.T) {
	if impl.GatherMaxFeeds != 60 {
		t.Error("limit")
	}
	if impl.GatherKept != 0 || impl.GatherShows != 1 || impl.GatherBad != 2 || impl.GatherOld != 3 || impl.GatherFull != 4 {
		t.Error("codes")
	}
}

// badIns are names that no gatherer has, by what is wrong with them.
func badIns() map[string][]string {
	bad := map[string][]string{
		"nil":               nil,
		"none":              {},
		"seven":             insNamed(7),
		"many":              slices.Repeat([]string{"a"}, 1000),
		"two alike":         {"a", "a"},
		"two of six alike":  {"a", "b", "c", "d", "e", "a"},
		"neighbours alike":  {"a", "b", "b"},
		"no name":           {""},
		"no name at last":   {"a", "b", ""},
		"nine bytes":        {"abcdefghi"},
		"great letter":      {"A"},
		"a blank":           {"a b"},
		"a blank at an end": {"a "},
		"underline":         {"a_"},
		"colon":             {"a:1"},
		"slash":             {"/"},
		"byte 0":            {"\x00"},
		"byte 10":           {"a\n"},
		"byte 255":          {"\xff"},
		"two-byte letter":   {"é"},
	}
	return bad
}

func TestNewGatherers(t *testing.T) {
	for _, ins := range [][]string{
		{"a"}, {"-"}, {"0"}, {"abcdefgh"}, {"b", "a"}, {"a", "aa", "aaa"}, {"a", "b", "c", "d", "e", "f"}, {"--------", "zzzzzzzz", "99999999", "-", "z", "9"},
	} {
		g, ok := impl.GatherNew(ins)
		if !ok || !slices.Equal(g.Ins, ins) || len(g.Wins) != len(ins) || len(g.Shown) != 0 || !impl.GatherOk(g) {
			t.Errorf("%v: %v %v", ins, g, ok)
		}
		for _, w := range g.Wins {
			if len(w) != 0 {
				t.Errorf("%v: %v", ins, g)
			}
		}
	}
	for count := range 9 {
		if _, ok := impl.GatherNew(insNamed(count)); ok != (count >= 1 && count <= 6) {
			t.Errorf("%d inputs: %v", count, ok)
		}
	}
}

func TestNoNewGatherers(t *testing.T) {
	for what, ins := range badIns() {
		if g, ok := impl.GatherNew(ins); ok || !isNoGather(g) {
			t.Errorf("%s: %v %v", what, g, ok)
		}
		feeds := []impl.Feed{feed(t, 0, 1, "x:1")}
		if shows, codes := impl.GatherPlay(ins, feeds); len(shows) != 0 || len(codes) != 0 {
			t.Errorf("%s: the play is %v %v", what, shows, codes)
		}
		if shows, codes := impl.GatherPlay(ins, nil); len(shows) != 0 || len(codes) != 0 {
			t.Errorf("%s: the empty play is %v %v", what, shows, codes)
		}
	}
}

// badGathers are gatherers that are not ok, each in one of their parts, by what is wrong with them.
func badGathers(t *testing.T) map[string]impl.Gather {
	t.Helper()
	one := [][]impl.Item{items(t, "x:1")}
	bad := map[string]impl.Gather{
		"nothing":                {},
		"inputs alone":           {Ins: []string{"a"}},
		"windows alone":          {Wins: one},
		"shown alone":            {Shown: row("x", 1)},
		"a window too few":       {Ins: []string{"a", "b"}, Wins: one},
		"a window too many":      {Ins: []string{"a"}, Wins: append(slices.Clone(one), nil)},
		"windows too many by 95": {Ins: []string{"a"}, Wins: make([][]impl.Item, 96)},
	}
	for what, ins := range badIns() {
		bad["inputs: "+what] = impl.Gather{Ins: ins, Wins: make([][]impl.Item, len(ins))}
	}
	for what, w := range badWindows(t) {
		bad["first window: "+what] = impl.Gather{Ins: []string{"a", "b"}, Wins: [][]impl.Item{w, one[0]}}
		bad["last window: "+what] = impl.Gather{Ins: []string{"a", "b"}, Wins: [][]impl.Item{one[0], w}}
	}
	for what, s := range badStamps() {
		bad["shown: "+what] = impl.Gather{Ins: []string{"a"}, Wins: one, Shown: s}
	}
	return bad
}

func TestOkOfGatherers(t *testing.T) {
	six := impl.Gather{Ins: insNamed(6), Wins: apartWindows(6), Shown: row("abcdefghijkl", impl.StampMaxVer)}
	if !impl.GatherOk(six) {
		t.Errorf("%v is ok", six)
	}
	for _, w := range smallWindows(2) {
		for _, shown := range wideStamps() {
			g := impl.Gather{Ins: []string{"a", "b"}, Wins: [][]impl.Item{w, nil}, Shown: shown}
			if !impl.GatherOk(g) {
				t.Errorf("%v is ok", g)
			}
		}
	}
	for what, g := range badGathers(t) {
		if impl.GatherOk(g) {
			t.Errorf("%s: %v is not ok", what, g)
		}
	}
}

func TestPutIntoWhatIsNotOk(t *testing.T) {
	for what, g := range badGathers(t) {
		for _, f := range []impl.Feed{{}, feed(t, 0, 1, "x:2"), feed(t, 1, 1, "x:2"), feed(t, 0, 1, "x:1"), feed(t, -1, 1, "x:2")} {
			if then, _ := mustPut(t, g, f, impl.GatherBad); !isNoGather(then) {
				t.Errorf("%s: %v leaves %v", what, f, then)
			}
		}
	}
}

func TestPutAtNoPlace(t *testing.T) {
	for count := 1; count <= 6; count++ {
		g := impl.Gather{Ins: insNamed(count), Wins: apartWindows(count)}
		for _, in := range []int{-1, count, count + 1, 6, 7, -count, math.MinInt, math.MaxInt} {
			if then, _ := mustPut(t, g, feed(t, in, 1, "w0:9"), impl.GatherBad); !isNoGather(then) {
				t.Errorf("%d of %d: %v", in, count, then)
			}
		}
		for in := range count {
			f := feed(t, in, 1, "w"+strconv.Itoa(in)+":9")
			if then, show := mustPut(t, g, f, impl.GatherShows); len(show.Vals) != count || show.Vals[in] != 1 || len(then.Wins) != count {
				t.Errorf("%d of %d: %v %v", in, count, then, show)
			}
		}
	}
}

func TestPutOfWhatWindowsRefuse(t *testing.T) {
	g := impl.Gather{Ins: []string{"a", "b"}, Wins: [][]impl.Item{items(t, "x:1 y:1", "x:2 y:1"), nil}, Shown: row("q", 5)}
	for what, s := range badStamps() {
		for in := range 2 {
			if then, _ := mustPut(t, g, impl.Feed{In: in, Item: impl.Item{Val: 1, Stamp: s}}, impl.GatherBad); !isNoGather(then) {
				t.Errorf("%s: %v", what, then)
			}
		}
	}
	for in := range 2 {
		if then, _ := mustPut(t, g, feed(t, in, 1, "-"), impl.GatherBad); !isNoGather(then) {
			t.Errorf("the empty stamp: %v", then)
		}
	}
	for _, text := range []string{"x:2 y:1", "x:1 y:1", "x:1 y:2", "x:3", "x:3 y:2 z:1", "z:1"} {
		if then, _ := mustPut(t, g, feed(t, 0, 1, text), impl.GatherOld); !sameGather(then, g) {
			t.Errorf("%s: %v", text, then)
		}
		then, _ := mustPut(t, g, feed(t, 1, 1, text), impl.GatherKept)
		if !sameItems(then.Wins[1], []impl.Item{item(t, 1, text)}) {
			t.Errorf("%s, first of its input: %v", text, then)
		}
	}
}

// An old item shows nothing, though the windows as they are had something to show.
func TestOldLooksAtNothingElse(t *testing.T) {
	g := impl.Gather{Ins: []string{"a"}, Wins: [][]impl.Item{items(t, "x:1", "x:2")}}
	if then, _ := mustPut(t, g, feed(t, 0, 9, "x:2"), impl.GatherOld); !sameGather(then, g) {
		t.Errorf("old leaves %v", then)
	}
}

func TestOneInputShowsAllThatIsTaken(t *testing.T) {
	g := mustNew(t, "a")
	for ver := 1; ver <= 9; ver++ {
		then, show := mustPut(t, g, impl.Feed{Item: impl.Item{Val: -ver, Stamp: row("x", ver)}}, impl.GatherShows)
		if !sameShow(show, impl.Show{Vals: []int{-ver}, Stamp: row("x", ver)}) || !sameMarks(then.Shown, row("x", ver)) {
			t.Fatalf("%v %v", then, show)
		}
		g = then
	}
	if len(g.Wins[0]) != impl.WinMax {
		t.Error(g)
	}
}

func TestSixInputsShowWhenTheLastOneCame(t *testing.T) {
	g := mustNew(t, insNamed(6)...)
	for in := range 6 {
		want := impl.GatherKept
		if in == 5 {
			want = impl.GatherShows
		}
		then, show := mustPut(t, g, impl.Feed{In: in, Item: impl.Item{Val: in, Stamp: row("x", 1)}}, want)
		if in == 5 && !sameShow(show, impl.Show{Vals: []int{0, 1, 2, 3, 4, 5}, Stamp: row("x", 1)}) {
			t.Errorf("%v", show)
		}
		g = then
	}
}

// What is shown need not be of the last items, nor of the item that came.
func TestShownIsTheGreatestChoice(t *testing.T) {
	g := mustNew(t, "a", "b")
	g, _ = mustPut(t, g, feed(t, 0, 10, "x:1"), impl.GatherKept)
	g, _ = mustPut(t, g, feed(t, 0, 20, "x:2"), impl.GatherKept)
	g, _ = mustPut(t, g, feed(t, 0, 30, "x:3"), impl.GatherKept)
	g, show := mustPut(t, g, feed(t, 1, 5, "x:2"), impl.GatherShows)
	if !sameShow(show, impl.Show{Vals: []int{20, 5}, Stamp: row("x", 2)}) {
		t.Errorf("%v", show)
	}
	g, _ = mustPut(t, g, feed(t, 0, 40, "x:4"), impl.GatherKept)
	if !sameMarks(g.Shown, row("x", 2)) || len(g.Wins[0]) != 4 {
		t.Errorf("kept leaves %v", g)
	}
}

// twelveOrMore is a gatherer of which the next item of the second input brings in the join's last sources.
func twelveOrMore(t *testing.T, shown []impl.Mark) impl.Gather {
	t.Helper()
	return impl.Gather{Ins: []string{"a", "b"}, Wins: [][]impl.Item{{{Val: 1, Stamp: row("abcdefgh", 1)}}, nil}, Shown: shown}
}

func TestJoinOfTwelveIsShown(t *testing.T) {
	then, show := mustPut(t, twelveOrMore(t, nil), impl.Feed{In: 1, Item: impl.Item{Val: 2, Stamp: row("hijkl", 1)}}, impl.GatherShows)
	if !sameShow(show, impl.Show{Vals: []int{1, 2}, Stamp: row("abcdefghijkl", 1)}) || !sameMarks(then.Shown, show.Stamp) {
		t.Errorf("%v %v", then, show)
	}
}

// With GatherFull the item stays in its window, and what was shown stays shown.
func TestJoinOfThirteenIsFull(t *testing.T) {
	for _, shown := range [][]impl.Mark{nil, row("a", 1), row("q", 9), row("abcdefghijkl", 1), row("abcdefghijkl", impl.StampMaxVer)} {
		g := twelveOrMore(t, shown)
		came := impl.Item{Val: 2, Stamp: row("hijklm", 1)}
		want := impl.Gather{Ins: g.Ins, Wins: [][]impl.Item{g.Wins[0], {came}}, Shown: shown}
		then, _ := mustPut(t, g, impl.Feed{In: 1, Item: came}, impl.GatherFull)
		if !sameGather(then, want) {
			t.Errorf("%v leaves %v, want %v", shown, then, want)
		}
		if again, _ := mustPut(t, then, impl.Feed{In: 1, Item: came}, impl.GatherOld); !sameGather(again, want) {
			t.Errorf("once more leaves %v", again)
		}
		later := impl.Item{Val: 3, Stamp: row("abcdefgh", 2)}
		want.Wins = [][]impl.Item{{g.Wins[0][0], later}, {came}}
		if more, _ := mustPut(t, then, impl.Feed{In: 0, Item: later}, impl.GatherFull); !sameGather(more, want) {
			t.Errorf("a later one leaves %v, want %v", more, want)
		}
	}
}

// Where nothing agrees there is no join that could be too large.
func TestThirteenSourcesThatDisagreeAreKept(t *testing.T) {
	came := impl.Item{Val: 2, Stamp: row("hijklm", 2)}
	then, _ := mustPut(t, twelveOrMore(t, nil), impl.Feed{In: 1, Item: came}, impl.GatherKept)
	if !sameItems(then.Wins[1], []impl.Item{came}) || len(then.Shown) != 0 {
		t.Errorf("%v", then)
	}
}

func TestShownThatIsNotBelowTheJoinIsKept(t *testing.T) {
	for text, want := range map[string]int{
		"-": impl.GatherShows, "x:1": impl.GatherShows, "x:2": impl.GatherShows, "y:3": impl.GatherShows, "x:2 y:2": impl.GatherShows, "x:1 y:3": impl.GatherShows,
		"x:2 y:3": impl.GatherKept, "x:3": impl.GatherKept, "y:4": impl.GatherKept, "x:3 y:3": impl.GatherKept, "x:1 y:4": impl.GatherKept,
		"z:1": impl.GatherKept, "x:1 z:1": impl.GatherKept, "x:2 y:3 z:1": impl.GatherKept, "a:1 x:1": impl.GatherKept,
	} {
		shown := mustRead(t, text)
		g := impl.Gather{Ins: []string{"a", "b"}, Wins: [][]impl.Item{items(t, "x:2"), items(t, "x:1 y:3")}, Shown: shown}
		then, show := mustPut(t, g, feed(t, 1, 7, "x:2 y:3"), want)
		if !sameItems(then.Wins[1], []impl.Item{item(t, 0, "x:1 y:3"), item(t, 7, "x:2 y:3")}) {
			t.Errorf("%s: the window is %v", text, then.Wins[1])
		}
		if want == impl.GatherShows {
			shown = mustRead(t, "x:2 y:3")
			if !sameShow(show, impl.Show{Vals: []int{0, 7}, Stamp: shown}) {
				t.Errorf("%s: %v", text, show)
			}
		}
		if !sameMarks(then.Shown, shown) {
			t.Errorf("%s: shown is %v", text, then.Shown)
		}
	}
}

func TestValuesMayBeAnyNumbers(t *testing.T) {
	for _, val := range []int{math.MinInt, -1, 0, 1, math.MaxInt} {
		shows, codes := impl.GatherPlay([]string{"a"}, []impl.Feed{feed(t, 0, val, "x:1099511627776")})
		if len(shows) != 1 || !slices.Equal(shows[0].Vals, []int{val}) || !slices.Equal(codes, []int{impl.GatherShows}) {
			t.Errorf("%d: %v %v", val, shows, codes)
		}
	}
}

func TestPlaysAtTheLimit(t *testing.T) {
	for _, size := range []int{0, 1, 59, 60, 61, 62, 1000} {
		var feeds []impl.Feed
		for i := range size {
			feeds = append(feeds, impl.Feed{Item: impl.Item{Val: i, Stamp: row("x", 1+i)}})
		}
		want := size
		if size > 60 {
			want = 0
		}
		shows, codes := impl.GatherPlay([]string{"a"}, feeds)
		if len(shows) != want || len(codes) != want {
			t.Errorf("%d feeds: %v %v", size, shows, codes)
		}
		for i, show := range shows {
			if codes[i] != impl.GatherShows || !sameShow(show, impl.Show{Vals: []int{i}, Stamp: row("x", 1+i)}) {
				t.Errorf("%d feeds: %v %v", size, show, codes[i])
			}
		}
	}
}

// A feed that is bad counts as a feed, and leaves all as it was.
func TestPlayWithBadFeeds(t *testing.T) {
	feeds := []impl.Feed{
		{}, feed(t, 0, 1, "x:1"), feed(t, 2, 1, "x:2"), feed(t, 0, 2, "-"), feed(t, -1, 1, "x:2"), feed(t, 1, 3, "x:1"), feed(t, 1, 3, "x:1"),
		{In: 1, Item: impl.Item{Stamp: row("x", 0)}}, feed(t, 0, 4, "x:2"), feed(t, 1, 5, "x:2"),
	}
	shows, codes := impl.GatherPlay([]string{"a", "b"}, feeds)
	if !slices.Equal(codes, []int{2, 0, 2, 2, 2, 1, 3, 2, 0, 1}) {
		t.Errorf("codes %v", codes)
	}
	want := []impl.Show{{Vals: []int{1, 3}, Stamp: row("x", 1)}, {Vals: []int{4, 5}, Stamp: row("x", 2)}}
	if !slices.EqualFunc(shows, want, sameShow) {
		t.Errorf("shows %v", shows)
	}
}
