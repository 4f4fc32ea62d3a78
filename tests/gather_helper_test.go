package tests

import (
	"math/rand"
	"slices"
	"strconv"
	"testing"

	"loop.example/bedstone/impl"
)

// gatherer is a gatherer as the document tells it: all items that each input took, and the versions that were shown.
type gatherer struct {
	inputs []taken
	shown  versions
}

func newGatherer(inputs int) *gatherer {
	return &gatherer{inputs: make([]taken, inputs), shown: versions{}}
}

func (g *gatherer) wins() [][]impl.Item {
	var wins [][]impl.Item
	for _, all := range g.inputs {
		wins = append(wins, all.window())
	}
	return wins
}

// put lets a feed come; the greatest choice is found by going through all that agree.
func (g *gatherer) put(f impl.Feed) (impl.Show, int) {
	if f.In < 0 || f.In >= len(g.inputs) {
		return impl.Show{}, impl.GatherBad
	}
	switch g.inputs[f.In].code(f.Item) {
	case impl.WinBad:
		return impl.Show{}, impl.GatherBad
	case impl.WinOld:
		return impl.Show{}, impl.GatherOld
	}
	g.inputs[f.In] = append(g.inputs[f.In], f.Item)
	wins := g.wins()
	picks := agreeing(wins)
	if len(picks) == 0 {
		return impl.Show{}, impl.GatherKept
	}
	best := picks[0]
	for _, pick := range picks {
		best = laterOf(best, pick)
	}
	join := joinOfPick(wins, best)
	if len(join) > impl.StampMaxSrc {
		return impl.Show{}, impl.GatherFull
	}
	if !g.shown.notAbove(join) || join.notAbove(g.shown) {
		return impl.Show{}, impl.GatherKept
	}
	g.shown = join
	show := impl.Show{Stamp: join.marks()}
	for i, place := range best {
		show.Vals = append(show.Vals, wins[i][place].Val)
	}
	return show, impl.GatherShows
}

func sameGather(a impl.Gather, b impl.Gather) bool {
	return slices.Equal(a.Ins, b.Ins) && slices.EqualFunc(a.Wins, b.Wins, sameItems) && sameMarks(a.Shown, b.Shown)
}

func sameShow(a impl.Show, b impl.Show) bool {
	return slices.Equal(a.Vals, b.Vals) && sameMarks(a.Stamp, b.Stamp)
}

func isNoGather(g impl.Gather) bool {
	return len(g.Ins) == 0 && len(g.Wins) == 0 && len(g.Shown) == 0
}

func isNoShow(s impl.Show) bool {
	return len(s.Vals) == 0 && len(s.Stamp) == 0
}

func mustNew(t *testing.T, ins ...string) impl.Gather {
	t.Helper()
	g, ok := impl.GatherNew(ins)
	if !ok {
		t.Fatalf("GatherNew(%v) is false", ins)
	}
	return g
}

func feed(t *testing.T, in int, val int, text string) impl.Feed {
	t.Helper()
	return impl.Feed{In: in, Item: item(t, val, text)}
}

// mustPut lets a feed come of which that code is wanted.
func mustPut(t *testing.T, g impl.Gather, f impl.Feed, want int) (impl.Gather, impl.Show) {
	t.Helper()
	then, show, code := impl.GatherPut(g, f)
	if code != want {
		t.Fatalf("%v put into %v: %d, want %d", f, g, code, want)
	}
	if code != impl.GatherShows && !isNoShow(show) {
		t.Fatalf("%v put into %v: the code is %d, and shown is %v", f, g, code, show)
	}
	return then, show
}

// insNamed are so many names of inputs.
func insNamed(count int) []string {
	var ins []string
	for i := range count {
		ins = append(ins, "in-"+strconv.Itoa(i))
	}
	return ins
}

// play is what GatherPlay is given.
type play struct {
	ins   []string
	feeds []impl.Feed
}

// somePlay lets sources rise, of which each input tells some, now and then behind the others; a few feeds are old or bad.
func somePlay(next *rand.Rand, inputs int, sources int, feeds int) play {
	now := make([]int, sources)
	reads := make([][]int, inputs)
	for i := range reads {
		reads[i] = next.Perm(sources)[:1+next.Intn(min(8, (sources+1)/2))]
	}
	p := play{ins: insNamed(inputs)}
	for val := range feeds {
		if next.Intn(3) > 0 {
			now[next.Intn(sources)]++
		}
		in := next.Intn(inputs)
		v := versions{}
		for _, source := range reads[in] {
			v["s"+strconv.Itoa(source)] = 1 + now[source]
		}
		f := impl.Feed{In: in, Item: impl.Item{Val: val - feeds/2, Stamp: v.marks()}}
		switch next.Intn(30) {
		case 0:
			f.In = []int{-1, inputs, inputs + 1, -inputs}[next.Intn(4)]
		case 1:
			f.Item.Stamp = nil
		case 2:
			f.Item.Stamp[0].Ver = max(1, f.Item.Stamp[0].Ver-next.Intn(3))
		case 3:
			f.Item.Stamp = append(f.Item.Stamp, impl.Mark{Src: "t", Ver: 1})
		case 4:
			f.Item.Stamp[0].Ver = -next.Intn(2)
		}
		p.feeds = append(p.feeds, f)
	}
	return p
}

// shortPlays are all plays of two inputs with three feeds, whose stamps have one or two of two sources.
func shortPlays() []play {
	var feeds []impl.Feed
	for _, s := range smallStamps() {
		if v := versionsOf(s); len(v) > 0 && v["b"] == 0 {
			feeds = append(feeds, impl.Feed{In: 0, Item: impl.Item{Val: 10 + len(feeds), Stamp: s}})
			feeds = append(feeds, impl.Feed{In: 1, Item: impl.Item{Val: -10 - len(feeds), Stamp: s}})
		}
	}
	var plays []play
	for _, a := range feeds {
		for _, b := range feeds {
			for _, c := range feeds {
				plays = append(plays, play{ins: []string{"one", "two"}, feeds: []impl.Feed{a, b, c}})
			}
		}
	}
	return plays
}

// somePlays are long plays of 1 to 6 inputs, with few sources, of which much agrees, and many, which don't fit into a stamp.
func somePlays(seed int64, count int) []play {
	next := rand.New(rand.NewSource(seed))
	var plays []play
	for i := range count {
		inputs := 1 + i%impl.ChoiceMaxIn
		sources := []int{1, 2, 3, 5, 8, 14, 30}[i%7]
		plays = append(plays, somePlay(next, inputs, sources, impl.GatherMaxFeeds-i%3))
	}
	return plays
}
