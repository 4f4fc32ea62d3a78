package tests

import (
	"math/rand"
	"testing"

	"loop.example/bedstone/impl"
)

// taken is what a window is by the document: all items that were taken, of which it shows the last ones.
type taken []impl.Item

func (all taken) window() []impl.Item {
	return all[max(0, len(all)-impl.WinMax):]
}

// code is what the document says of an item that comes.
func (all taken) code(it impl.Item) int {
	switch {
	case len(it.Stamp) == 0 || !impl.StampOk(it.Stamp):
		return impl.WinBad
	case len(all) > 0 && !above(versionsOf(all[len(all)-1].Stamp), versionsOf(it.Stamp)):
		return impl.WinOld
	}
	return impl.WinTaken
}

// checkComing lets items come one behind the other, and holds each answer against what was taken.
func checkComing(t *testing.T, coming []impl.Item) {
	t.Helper()
	var all taken
	var w []impl.Item
	for _, it := range coming {
		want := all.code(it)
		if want == impl.WinTaken {
			all = append(all, it)
		}
		got, code := impl.WindowPut(w, it)
		if code != want {
			t.Fatalf("%v put behind %v: %d, want %d", it, w, code, want)
		}
		if code == impl.WinBad {
			if len(got) != 0 {
				t.Fatalf("%v put behind %v: bad, and %v", it, w, got)
			}
			continue
		}
		if !sameItems(got, all.window()) {
			t.Fatalf("%v put behind %v: %v, want %v", it, w, got, all.window())
		}
		w = got
		checkWindow(t, w)
	}
}

func checkWindow(t *testing.T, w []impl.Item) {
	t.Helper()
	if !impl.WindowOk(w) {
		t.Fatalf("%v is a window", w)
	}
	last, ok := impl.WindowLast(w)
	if ok != (len(w) > 0) || ok && !sameItem(last, w[len(w)-1]) || !ok && !isNothing(last) {
		t.Fatalf("the last one of %v: %v %v", w, last, ok)
	}
}

// All rows of three small stamps.
func TestP7AllShortRows(t *testing.T) {
	eachTriple(func(a []impl.Mark, b []impl.Mark, c []impl.Mark) {
		checkComing(t, []impl.Item{{Val: 5, Stamp: a}, {Val: -5, Stamp: b}, {Val: 5, Stamp: c}})
	})
}

func TestP7RisingRow(t *testing.T) {
	var coming []impl.Item
	for i := range 40 {
		coming = append(coming, impl.Item{Val: 100 - i, Stamp: row("abc", 1+i)})
	}
	checkComing(t, coming)
}

// Long rows of which most items rise, some fall, and some are bad.
func TestP7LongRows(t *testing.T) {
	next := rand.New(rand.NewSource(7))
	for range 400 {
		v := versions{"a": 1, "b": 1, "c": 1}
		var coming []impl.Item
		for i := range 40 {
			s := v.marks()
			switch kind := next.Intn(10); {
			case kind == 0:
				s[next.Intn(3)].Ver += next.Intn(3) - 1
			case kind == 1:
				s = s[next.Intn(4):]
			default:
				v[[]string{"a", "b", "c"}[next.Intn(3)]]++
				s = v.marks()
			}
			coming = append(coming, impl.Item{Val: i, Stamp: s})
		}
		checkComing(t, coming)
	}
}

// What was taken or old leaves a window as if the old ones had not come.
func TestP7SmallWindowsAreBuiltByPut(t *testing.T) {
	for _, want := range smallWindows(3) {
		var w []impl.Item
		for _, it := range want {
			then, code := impl.WindowPut(w, it)
			if code != impl.WinTaken {
				t.Fatalf("%v put behind %v: %d", it, w, code)
			}
			w, code = impl.WindowPut(then, it)
			if code != impl.WinOld || !sameItems(w, then) {
				t.Fatalf("%v once more: %v %d", it, w, code)
			}
		}
		if !sameItems(w, want) {
			t.Fatalf("%v, want %v", w, want)
		}
	}
}

// WindowOk of up to three small stamps in a row, by the document's words.
func TestP7OkIsWhatTheDocumentSays(t *testing.T) {
	eachTriple(func(a []impl.Mark, b []impl.Mark, c []impl.Mark) {
		want := len(a) > 0 && above(versionsOf(a), versionsOf(b)) && above(versionsOf(b), versionsOf(c))
		w := []impl.Item{{Stamp: a}, {Stamp: b}, {Stamp: c}}
		if impl.WindowOk(w) != want {
			t.Fatalf("WindowOk(%v) = %v", w, !want)
		}
	})
}
