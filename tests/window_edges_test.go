package tests

import (
	"math"
	"testing"

	"loop.example/bedstone/impl"
)

func TestLimitsOfWindows(t *testing.T) {
	if impl.WinMax != 4 || impl.WinTaken != 0 || impl.WinBad != 1 || impl.WinOld != 2 {
		t.Error("limits or codes")
	}
}

func TestOkOfWindows(t *testing.T) {
	for _, w := range append(smallWindows(3), longestWindow(), []impl.Item{}) {
		if !impl.WindowOk(w) {
			t.Errorf("%v is a window", w)
		}
	}
	four := items(t, "x:1", "x:2", "x:3", "x:1099511627776")
	if !impl.WindowOk(four) {
		t.Error("four items")
	}
	four[0].Val, four[1].Val, four[2].Val = math.MaxInt, math.MinInt, 0
	if !impl.WindowOk(four) {
		t.Error("values are any numbers")
	}
}

func TestWhatIsNoWindow(t *testing.T) {
	for what, w := range badWindows(t) {
		if impl.WindowOk(w) {
			t.Errorf("%s: %v is no window", what, w)
		}
		for _, it := range append(items(t, "x:9", "a:9", "x:9 y:9", "-"), impl.Item{}) {
			if got, code := impl.WindowPut(w, it); code != impl.WinBad || len(got) != 0 {
				t.Errorf("%s: put: %v %d", what, got, code)
			}
		}
		if it, ok := impl.WindowLast(w); ok || !isNothing(it) {
			t.Errorf("%s: last: %v %v", what, it, ok)
		}
		for _, src := range []string{"x", "y", "a", "b", ""} {
			if got := impl.WindowFind(w, src, math.MaxInt); got != -1 {
				t.Errorf("%s: find %q: %d", what, src, got)
			}
		}
	}
}

func TestPutAtTheLimit(t *testing.T) {
	three := items(t, "x:1", "x:2", "x:3")
	four, code := impl.WindowPut(three, item(t, 3, "x:4"))
	if code != impl.WinTaken || !sameItems(four, items(t, "x:1", "x:2", "x:3", "x:4")) {
		t.Errorf("the fourth: %v %d", four, code)
	}
	five, code := impl.WindowPut(four, item(t, 4, "x:5"))
	if code != impl.WinTaken || !sameItems(five, items(t, "x:1", "x:2", "x:3", "x:4", "x:5")[1:]) {
		t.Errorf("the fifth: %v %d", five, code)
	}
	if old, code := impl.WindowPut(five, item(t, 9, "x:5")); code != impl.WinOld || !sameItems(old, five) {
		t.Errorf("the fifth once more: %v %d", old, code)
	}
}

func TestPutIntoTheEmptyWindow(t *testing.T) {
	for _, s := range append(smallStamps(), wideStamps()...) {
		it := impl.Item{Val: -3, Stamp: s}
		got, code := impl.WindowPut(nil, it)
		if len(s) == 0 {
			if code != impl.WinBad || len(got) != 0 {
				t.Errorf("the empty stamp: %v %d", got, code)
			}
			continue
		}
		if code != impl.WinTaken || !sameItems(got, []impl.Item{it}) {
			t.Errorf("%v: %v %d", it, got, code)
		}
	}
}

func TestPutOfWhatIsOld(t *testing.T) {
	w := items(t, "x:1 y:3", "x:2 y:3")
	for _, text := range []string{
		"x:2 y:3", "x:1 y:3", "x:1 y:1", "x:3 y:2", "x:1 y:4",
		"x:3", "y:4", "x:3 y:4 z:1", "a:1 x:3 y:4", "x:3 z:4", "a:3 y:4", "z:1", "x:2 y:3 z:1",
	} {
		if got, code := impl.WindowPut(w, item(t, 7, text)); code != impl.WinOld || !sameItems(got, w) {
			t.Errorf("%s: %v %d", text, got, code)
		}
	}
	for _, text := range []string{"x:3 y:3", "x:2 y:4", "x:3 y:4", "x:1099511627776 y:3"} {
		want := append(cloned(w), item(t, 7, text))
		if got, code := impl.WindowPut(w, item(t, 7, text)); code != impl.WinTaken || !sameItems(got, want) {
			t.Errorf("%s: %v %d", text, got, code)
		}
	}
}

func TestPutOfWhatIsBad(t *testing.T) {
	for what, s := range badStamps() {
		for _, w := range [][]impl.Item{nil, items(t, "a:1"), items(t, "x:1 y:1", "x:1 y:2"), longestWindow()} {
			if got, code := impl.WindowPut(w, impl.Item{Val: 1, Stamp: s}); code != impl.WinBad || len(got) != 0 {
				t.Errorf("%s behind %v: %v %d", what, w, got, code)
			}
		}
	}
	for _, w := range [][]impl.Item{nil, items(t, "a:1"), longestWindow()} {
		if got, code := impl.WindowPut(w, impl.Item{Val: 1, Stamp: []impl.Mark{}}); code != impl.WinBad || len(got) != 0 {
			t.Errorf("the empty stamp behind %v: %v %d", w, got, code)
		}
	}
}

func TestLast(t *testing.T) {
	for _, w := range append(smallWindows(3), longestWindow()) {
		checkWindow(t, w)
	}
	if it, ok := impl.WindowLast([]impl.Item{}); ok || !isNothing(it) {
		t.Errorf("the last one of none: %v %v", it, ok)
	}
}

func TestFind(t *testing.T) {
	w := items(t, "x:2 y:5", "x:2 y:7", "x:4 y:7", "x:9 y:1099511627776")
	for _, c := range []struct {
		src  string
		ver  int
		want int
	}{
		{"x", math.MinInt, -1}, {"x", -1, -1}, {"x", 0, -1}, {"x", 1, -1},
		{"x", 2, 1}, {"x", 3, 1}, {"x", 4, 2}, {"x", 8, 2}, {"x", 9, 3}, {"x", 10, 3}, {"x", math.MaxInt, 3},
		{"y", 4, -1}, {"y", 5, 0}, {"y", 6, 0}, {"y", 7, 2}, {"y", 8, 2},
		{"y", 1099511627775, 2}, {"y", 1099511627776, 3}, {"y", math.MaxInt, 3},
		{"", 9, -1}, {"z", 9, -1}, {"z", math.MaxInt, -1}, {"X", 9, -1}, {"x:2", 9, -1}, {"xx", 9, -1}, {"\xff", 9, -1},
	} {
		if got := impl.WindowFind(w, c.src, c.ver); got != c.want {
			t.Errorf("WindowFind of %q with %d: %d, want %d", c.src, c.ver, got, c.want)
		}
	}
	if impl.WindowFind(nil, "x", 9) != -1 || impl.WindowFind([]impl.Item{}, "", 0) != -1 {
		t.Error("WindowFind of the empty window")
	}
}

func TestFindIsWhatTheDocumentSays(t *testing.T) {
	for _, w := range smallWindows(3) {
		for _, src := range []string{"a", "a-", "b", "c", ""} {
			for ver := -1; ver <= 3; ver++ {
				want := -1
				for place, it := range w {
					if had, ok := versionsOf(it.Stamp)[src]; ok && had <= ver {
						want = place
					}
				}
				if got := impl.WindowFind(w, src, ver); got != want {
					t.Fatalf("WindowFind(%v, %q, %d) = %d, want %d", w, src, ver, got, want)
				}
			}
		}
	}
}
