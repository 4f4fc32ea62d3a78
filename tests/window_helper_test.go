package tests

import (
	"slices"
	"testing"

	"loop.example/bedstone/impl"
)

func item(t *testing.T, val int, text string) impl.Item {
	t.Helper()
	return impl.Item{Val: val, Stamp: mustRead(t, text)}
}

// items are items with those stamps; their values are their places.
func items(t *testing.T, texts ...string) []impl.Item {
	t.Helper()
	var w []impl.Item
	for i, text := range texts {
		w = append(w, item(t, i, text))
	}
	return w
}

func sameItem(a impl.Item, b impl.Item) bool {
	return a.Val == b.Val && sameMarks(a.Stamp, b.Stamp)
}

func sameItems(a []impl.Item, b []impl.Item) bool {
	return slices.EqualFunc(a, b, sameItem)
}

func isNothing(it impl.Item) bool {
	return it.Val == 0 && len(it.Stamp) == 0
}

// cloned is a window in memory of its own, the test's way.
func cloned(w []impl.Item) []impl.Item {
	var c []impl.Item
	for _, it := range w {
		c = append(c, impl.Item{Val: it.Val, Stamp: slices.Clone(it.Stamp)})
	}
	return c
}

// above tells, by the document's words, whether a stamp may come behind another one in a window.
func above(ahead versions, v versions) bool {
	if len(ahead) != len(v) {
		return false
	}
	for name := range v {
		if ahead[name] == 0 {
			return false
		}
	}
	return ahead.notAbove(v) && !v.notAbove(ahead)
}

// smallWindows are all windows of at most so many of three sources, with the versions 1 and 2; the empty one is the first.
func smallWindows(sources int) [][]impl.Item {
	all := [][]impl.Item{nil}
	longest := all
	for range impl.WinMax {
		var more [][]impl.Item
		for _, w := range longest {
			for _, s := range smallStamps() {
				if fits := len(s) > 0 && len(s) <= sources; !fits {
					continue
				}
				if len(w) > 0 && !above(versionsOf(w[len(w)-1].Stamp), versionsOf(s)) {
					continue
				}
				more = append(more, append(slices.Clone(w), impl.Item{Val: 10 + len(w), Stamp: s}))
			}
		}
		all = append(all, more...)
		longest = more
	}
	return all
}

// longestWindow is one of WinMax items with the greatest stamps.
func longestWindow() []impl.Item {
	var w []impl.Item
	for i := range impl.WinMax {
		w = append(w, impl.Item{Val: i, Stamp: row("abcdefghijkl", impl.StampMaxVer-impl.WinMax+1+i)})
	}
	return w
}

// badWindows are items that are no window, by what is wrong with them.
func badWindows(t *testing.T) map[string][]impl.Item {
	t.Helper()
	bad := map[string][]impl.Item{
		"five items":             items(t, "x:1", "x:2", "x:3", "x:4", "x:5"),
		"many items":             slices.Repeat(items(t, "x:1"), 1000),
		"the same twice":         items(t, "x:1 y:1", "x:1 y:1"),
		"falling":                items(t, "x:2", "x:1"),
		"last one falling":       items(t, "x:1", "x:2", "x:4", "x:3"),
		"below the first":        items(t, "x:2", "x:3", "x:1"),
		"apart":                  items(t, "x:1 y:2", "x:2 y:1"),
		"another source":         items(t, "x:1", "y:2"),
		"one source more":        items(t, "x:1", "x:2 y:1"),
		"one source more, late":  items(t, "x:1", "x:2", "x:2 y:1"),
		"a source ahead":         items(t, "x:1", "a:1 x:2"),
		"one source less":        items(t, "x:1 y:1", "x:2"),
		"one source for another": items(t, "x:1 y:1", "x:2 z:1"),
		"an empty stamp":         items(t, "-"),
		"an empty stamp first":   items(t, "-", "x:1"),
		"an empty stamp last":    items(t, "x:1", "-"),
		"nothing of an item":     {{}},
	}
	for what, s := range badStamps() {
		bad["stamp: "+what] = []impl.Item{{Val: 1, Stamp: s}}
		bad["stamp behind: "+what] = []impl.Item{{Val: 1, Stamp: row("a", 1)}, {Val: 2, Stamp: s}}
	}
	return bad
}
