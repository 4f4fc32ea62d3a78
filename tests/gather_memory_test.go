package tests

import (
	"slices"
	"testing"
	"unsafe"

	"loop.example/bedstone/impl"
)

// guardedGather is a gatherer with room behind the ends of all its lists, and a look at all of that room.
func guardedGather(g impl.Gather) (impl.Gather, func() impl.Gather) {
	var wins [][]impl.Item
	var wholes [][]impl.Item
	for _, w := range g.Wins {
		part, whole := guardedItems(w)
		wins = append(wins, part)
		wholes = append(wholes, whole)
	}
	wins = append(wins, []impl.Item{{Val: -7, Stamp: row("guard", 7)}})
	ins := append(slices.Clone(g.Ins), "guard")
	shown, wholeShown := guarded(g.Shown)
	look := func() impl.Gather {
		room := impl.Gather{Ins: slices.Clone(ins), Shown: slices.Clone(wholeShown)}
		for i, whole := range wholes {
			room.Wins = append(room.Wins, roomOf(whole), roomOf(wins[i]))
		}
		room.Wins = append(room.Wins, roomOf(wins[len(wholes)]))
		return room
	}
	return impl.Gather{Ins: ins[:len(g.Ins)], Wins: wins[:len(g.Wins)], Shown: shown}, look
}

// clonedGather is a gatherer in memory of its own, the test's way.
func clonedGather(g impl.Gather) impl.Gather {
	c := impl.Gather{Ins: slices.Clone(g.Ins), Shown: slices.Clone(g.Shown)}
	for _, w := range g.Wins {
		c.Wins = append(c.Wins, cloned(w))
	}
	return c
}

// scribbleGather writes into each list of an answer, spare room included, and asks whether the lists that are yet to come have changed by it.
func scribbleGather(t *testing.T, g impl.Gather, show impl.Show) {
	t.Helper()
	kept, keptShow := clonedGather(g), impl.Show{Vals: slices.Clone(show.Vals), Stamp: slices.Clone(show.Stamp)}
	scribble(g.Shown)
	if !sameShow(show, keptShow) {
		t.Fatalf("what is shown shares memory with Shown of %v", kept)
	}
	scribble(show.Stamp)
	show.Vals = show.Vals[:cap(show.Vals)]
	for i := range show.Vals {
		show.Vals[i] = -1
	}
	for i, w := range g.Wins {
		if !sameItems(w, kept.Wins[i]) {
			t.Fatalf("the window %d of %v shares memory with another list", i, kept)
		}
		scribbleItems(t, w)
	}
	if !slices.Equal(g.Ins, kept.Ins) {
		t.Fatalf("the inputs of %v share memory with another list", kept)
	}
	ins, wins := g.Ins[:cap(g.Ins)], g.Wins[:cap(g.Wins)]
	for i := range ins {
		ins[i] = "written"
	}
	for i := range wins {
		wins[i] = []impl.Item{{Val: -1}}
	}
}

func TestAnswersOfGatherersAreNewMemory(t *testing.T) {
	gathers := badGathers(t)
	gathers["new"] = mustNew(t, "a", "b")
	gathers["one window"] = impl.Gather{Ins: []string{"a", "b"}, Wins: [][]impl.Item{items(t, "x:1 y:1"), nil}}
	gathers["shown"] = impl.Gather{Ins: []string{"a", "b"}, Wins: [][]impl.Item{items(t, "x:1 y:1"), items(t, "x:1", "x:2")}, Shown: mustRead(t, "x:1 y:1")}
	gathers["full windows"] = impl.Gather{Ins: []string{"a", "b"}, Wins: [][]impl.Item{items(t, "x:1", "x:2", "x:3", "x:4"), longestWindow()}}
	feeds := []impl.Feed{
		{}, feed(t, -1, 1, "x:1"), feed(t, 2, 1, "x:1"), feed(t, 0, 1, "-"), feed(t, 0, 1, "x:2 y:1"), feed(t, 1, 1, "x:2"), feed(t, 0, 1, "x:5"), feed(t, 1, 1, "x:9"),
		{In: 1, Item: impl.Item{Stamp: row("abcdefghijkl", impl.StampMaxVer)}},
	}
	met := map[int]bool{}
	for what, g := range gathers {
		for _, f := range feeds {
			guard, look := guardedGather(g)
			one, wholeOne := guardedItems([]impl.Item{f.Item})
			want, wantOne := look(), roomOf(wholeOne)
			then, show, code := impl.GatherPut(guard, impl.Feed{In: f.In, Item: one[0]})
			met[code] = true
			impl.GatherOk(guard)
			scribbleGather(t, then, show)
			if !sameGather(look(), want) || !sameItems(roomOf(wholeOne), wantOne) {
				t.Fatalf("%s, %v: an argument was written into", what, f)
			}
		}
	}
	if len(met) != 5 {
		t.Errorf("only the codes %v were met", met)
	}
}

func TestNewGatherersAreNewMemory(t *testing.T) {
	whole := []string{"a", "b", "guard"}
	g := mustNew(t, whole[:2]...)
	scribbleGather(t, g, impl.Show{})
	if !slices.Equal(whole, []string{"a", "b", "guard"}) {
		t.Error(whole)
	}
}

func TestAnswersOfPlaysAreNewMemory(t *testing.T) {
	for _, p := range somePlays(9, 42) {
		ins := append(slices.Clone(p.ins), "guard")
		feeds := append(slices.Clone(p.feeds), impl.Feed{In: -7})
		var stamps [][]impl.Mark
		for i := range p.feeds {
			part, whole := guarded(feeds[i].Item.Stamp)
			feeds[i].Item.Stamp = part
			stamps = append(stamps, whole)
		}
		shows, codes := impl.GatherPlay(ins[:len(p.ins)], feeds[:len(p.feeds)])
		checkShowsApart(t, shows, codes)
		if !slices.Equal(ins, append(slices.Clone(p.ins), "guard")) || feeds[len(p.feeds)].In != -7 {
			t.Fatalf("%v: the room behind an argument was written into", p)
		}
		for i, f := range p.feeds {
			want, whole := guarded(f.Item.Stamp)
			if feeds[i].In != f.In || feeds[i].Item.Val != f.Item.Val || !sameMarks(feeds[i].Item.Stamp, want) || !sameMarks(stamps[i], whole) {
				t.Fatalf("%v: the feed %d was written into", p, i)
			}
		}
	}
}

func checkShowsApart(t *testing.T, shows []impl.Show, codes []int) {
	t.Helper()
	var kept []impl.Show
	for _, show := range shows {
		kept = append(kept, impl.Show{Vals: slices.Clone(show.Vals), Stamp: slices.Clone(show.Stamp)})
	}
	for i := range codes[:cap(codes)] {
		codes[:cap(codes)][i] = -1
	}
	for i, show := range shows {
		if !sameShow(show, kept[i]) {
			t.Fatalf("%v: shows share memory", kept)
		}
		scribble(show.Stamp)
		vals := show.Vals[:cap(show.Vals)]
		for j := range vals {
			vals[j] = -1
		}
	}
}

// The names in an answer are new memory, too, and so are those of its lists to each other.
func TestNamesInGatherersAreNew(t *testing.T) {
	name := string([]byte("abcdefgh"))
	g := mustNew(t, name)
	item := impl.Item{Val: 1, Stamp: []impl.Mark{{Src: name, Ver: 1}}}
	then, show := mustPut(t, g, impl.Feed{Item: item}, impl.GatherShows)
	old, _ := mustPut(t, then, impl.Feed{Item: item}, impl.GatherOld)
	names := []string{name, g.Ins[0]}
	for _, one := range []impl.Gather{then, old} {
		names = append(names, one.Ins[0], one.Wins[0][0].Stamp[0].Src, one.Shown[0].Src)
	}
	names = append(names, show.Stamp[0].Src)
	met := map[*byte]bool{}
	for i, one := range names {
		if at := unsafe.StringData(one); one != name || met[at] {
			t.Errorf("the name %d, %s, is shared", i, one)
		} else {
			met[at] = true
		}
	}
}

// Inputs may share one window's memory, and Shown a stamp of it, in an argument; not in the answer.
func TestGatherersThatShareMemory(t *testing.T) {
	w := items(t, "x:1", "x:2")
	g := impl.Gather{Ins: []string{"a", "b", "c"}, Wins: [][]impl.Item{w, w, w[:1]}, Shown: w[0].Stamp}
	then, show := mustPut(t, g, impl.Feed{In: 2, Item: w[1]}, impl.GatherShows)
	scribbleGather(t, then, show)
	then, show = mustPut(t, g, impl.Feed{In: 1, Item: w[1]}, impl.GatherOld)
	scribbleGather(t, then, show)
	if !sameItems(w, items(t, "x:1", "x:2")) {
		t.Error(w)
	}
}
