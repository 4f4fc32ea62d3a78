package tests

import (
	"slices"
	"testing"
	"unsafe"

	"loop.example/bedstone/impl"
)

// guardedItems is a window with room behind its end and behind that of each stamp, and all of that room, to see whether it is written into.
func guardedItems(w []impl.Item) (part []impl.Item, whole []impl.Item) {
	for _, it := range w {
		stamp, _ := guarded(it.Stamp)
		whole = append(whole, impl.Item{Val: it.Val, Stamp: stamp})
	}
	for range 8 {
		whole = append(whole, impl.Item{Val: -7, Stamp: row("guard", 7)})
	}
	return whole[:len(w)], whole
}

// roomOf is a copy of items and of all that lies behind the ends of their stamps.
func roomOf(whole []impl.Item) []impl.Item {
	var copied []impl.Item
	for _, it := range whole {
		copied = append(copied, impl.Item{Val: it.Val, Stamp: slices.Clone(it.Stamp[:cap(it.Stamp)])})
	}
	return copied
}

// scribbleItems writes into an answer, its spare room included; a stamp that changes by what is written into another one is shared.
func scribbleItems(t *testing.T, w []impl.Item) {
	t.Helper()
	kept := cloned(w)
	for i := range w {
		for j := i; j < len(w); j++ {
			if !sameItem(w[j], kept[j]) {
				t.Errorf("%v: stamps of one answer share memory", kept)
			}
		}
		scribble(w[i].Stamp)
	}
	w = w[:cap(w)]
	for i := range w {
		w[i] = impl.Item{Val: -1, Stamp: row("written", 1)}
	}
}

func memoryWindows(t *testing.T) [][]impl.Item {
	t.Helper()
	wins := [][]impl.Item{nil, items(t, "x:1 y:1"), items(t, "x:1 y:1", "x:1 y:2", "x:2 y:2"), items(t, "x:1", "x:2", "x:3", "x:4"), longestWindow()}
	for _, bad := range badWindows(t) {
		wins = append(wins, bad)
	}
	return wins
}

func TestAnswersOfWindowsAreNewMemory(t *testing.T) {
	coming := append(items(t, "x:1 y:1", "x:5", "x:5 y:5", "-"), impl.Item{Stamp: row("abcdefghijkl", impl.StampMaxVer)})
	for _, w := range memoryWindows(t) {
		for _, it := range coming {
			part, whole := guardedItems(w)
			one, wholeOne := guardedItems([]impl.Item{it})
			want, wantOne := roomOf(whole), roomOf(wholeOne)
			put, _ := impl.WindowPut(part, one[0])
			last, _ := impl.WindowLast(part)
			impl.WindowOk(part)
			impl.WindowFind(part, "x", 3)
			scribbleItems(t, put)
			scribble(last.Stamp)
			if !sameItems(roomOf(whole), want) || !sameItems(roomOf(wholeOne), wantOne) {
				t.Fatalf("%v and %v: an argument was written into", w, it)
			}
		}
	}
}

// An item whose stamp is that of the window's last one, shared stamps within a window, and a stamp that lies behind another's end.
func TestArgumentsThatShareMemory(t *testing.T) {
	marks := append(row("x", 1), row("x", 2)...)
	w := []impl.Item{{Val: 1, Stamp: marks[0:1]}}
	got, code := impl.WindowPut(w, impl.Item{Val: 2, Stamp: marks[1:2]})
	if code != impl.WinTaken || !sameItems(got, []impl.Item{{Val: 1, Stamp: row("x", 1)}, {Val: 2, Stamp: row("x", 2)}}) {
		t.Fatalf("%v %d", got, code)
	}
	scribbleItems(t, got)
	old, code := impl.WindowPut(w, w[0])
	if code != impl.WinOld || !sameItems(old, []impl.Item{{Val: 1, Stamp: row("x", 1)}}) {
		t.Fatalf("%v %d", old, code)
	}
	scribbleItems(t, old)
	if !slices.Equal(marks, append(row("x", 1), row("x", 2)...)) {
		t.Error(marks)
	}
}

func TestNamesInWindowsAreNew(t *testing.T) {
	src := string([]byte("abcdefgh"))
	w := []impl.Item{{Val: 1, Stamp: []impl.Mark{{Src: src, Ver: 1}}}}
	later := impl.Item{Val: 2, Stamp: []impl.Mark{{Src: src, Ver: 2}}}
	put, _ := impl.WindowPut(w, later)
	old, _ := impl.WindowPut(w, w[0])
	last, _ := impl.WindowLast(w)
	join, _ := impl.ChoiceJoin([][]impl.Item{w}, []int{0})
	answers := [][]impl.Mark{last.Stamp, join}
	for _, it := range append(put, old...) {
		answers = append(answers, it.Stamp)
	}
	if len(answers) != 5 {
		t.Fatal(answers)
	}
	for _, s := range answers {
		if len(s) != 1 || s[0].Src != src || unsafe.StringData(s[0].Src) == unsafe.StringData(src) {
			t.Errorf("%v: a name is shared with an argument", s)
		}
	}
}
