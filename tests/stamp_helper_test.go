package tests

import (
	"slices"
	"strings"
	"testing"

	"loop.example/bedstone/impl"
)

// versions is a stamp as the document tells it, without the program's order of marks: the version of each source.
type versions map[string]int

func versionsOf(s []impl.Mark) versions {
	v := versions{}
	for _, m := range s {
		v[m.Src] = m.Ver
	}
	return v
}

func (v versions) marks() []impl.Mark {
	var names []string
	for name := range v {
		names = append(names, name)
	}
	slices.Sort(names)
	var s []impl.Mark
	for _, name := range names {
		s = append(s, impl.Mark{Src: name, Ver: v[name]})
	}
	return s
}

func (v versions) notAbove(w versions) bool {
	for name, ver := range v {
		if w[name] < ver {
			return false
		}
	}
	return true
}

func (v versions) joined(w versions) versions {
	j := versions{}
	for _, one := range []versions{v, w} {
		for name, ver := range one {
			j[name] = max(j[name], ver)
		}
	}
	return j
}

func (v versions) agrees(w versions) bool {
	for name, ver := range v {
		if other, ok := w[name]; ok && other != ver {
			return false
		}
	}
	return true
}

// smallStamps are all stamps of three sources with the versions 1 and 2.
func smallStamps() [][]impl.Mark {
	names := []string{"a", "a-", "b"}
	all := [][]impl.Mark{nil}
	for _, name := range names {
		var more [][]impl.Mark
		for _, s := range all {
			more = append(more, s)
			for ver := 1; ver <= 2; ver++ {
				more = append(more, append(slices.Clone(s), impl.Mark{Src: name, Ver: ver}))
			}
		}
		all = more
	}
	return all
}

// wideStamps are stamps at and near the limits, whose joins in part don't fit.
func wideStamps() [][]impl.Mark {
	full := row("abcdefghijkl", 3)
	return [][]impl.Mark{
		nil,
		full,
		row("abcdefghijkl", impl.StampMaxVer),
		row("bcdefghijklm", 3),
		row("abcdef", 3),
		row("ghijkl", 2),
		row("ghijklm", 3),
		row("m", 1),
		row("l", impl.StampMaxVer),
		{{Src: "-", Ver: 1}, {Src: "0", Ver: 2}, {Src: "zzzzzzzz", Ver: impl.StampMaxVer}},
	}
}

// row is a mark with the version for each letter.
func row(letters string, ver int) []impl.Mark {
	var s []impl.Mark
	for _, letter := range strings.Split(letters, "") {
		s = append(s, impl.Mark{Src: letter, Ver: ver})
	}
	return s
}

// badStamps are marks that are no stamp, by what is wrong with them.
func badStamps() map[string][]impl.Mark {
	return map[string][]impl.Mark{
		"thirteen marks":     row("abcdefghijklm", 1),
		"not ascending":      {{Src: "b", Ver: 1}, {Src: "a", Ver: 1}},
		"longer name first":  {{Src: "aa", Ver: 1}, {Src: "a", Ver: 1}},
		"last not ascending": {{Src: "a", Ver: 1}, {Src: "c", Ver: 1}, {Src: "b", Ver: 1}},
		"told twice":         {{Src: "a", Ver: 1}, {Src: "a", Ver: 2}},
		"the same twice":     {{Src: "a", Ver: 1}, {Src: "a", Ver: 1}},
		"no name":            {{Src: "", Ver: 1}},
		"nine bytes":         {{Src: "abcdefghi", Ver: 1}},
		"great letter":       {{Src: "A", Ver: 1}},
		"blank in a name":    {{Src: "a b", Ver: 1}},
		"colon in a name":    {{Src: "a:1", Ver: 1}},
		"byte ahead of a":    {{Src: "`", Ver: 1}},
		"byte behind z":      {{Src: "{", Ver: 1}},
		"byte ahead of 0":    {{Src: "/", Ver: 1}},
		"underline":          {{Src: "a_b", Ver: 1}},
		"byte 0":             {{Src: "a\x00", Ver: 1}},
		"byte 255":           {{Src: "\xff", Ver: 1}},
		"two-byte letter":    {{Src: "é", Ver: 1}},
		"version 0":          {{Src: "a", Ver: 0}},
		"version below 0":    {{Src: "a", Ver: -1}},
		"least version":      {{Src: "a", Ver: -1 << 63}},
		"one version more":   {{Src: "a", Ver: impl.StampMaxVer + 1}},
		"greatest number":    {{Src: "a", Ver: 1<<63 - 1}},
		"last version bad":   {{Src: "a", Ver: 1}, {Src: "b", Ver: 0}},
		"nothing of a mark":  {{}},
	}
}

// sameMarks holds lists against each other; the empty and the nil list are the same.
func sameMarks(a []impl.Mark, b []impl.Mark) bool {
	return slices.Equal(a, b)
}

func mustRead(t *testing.T, text string) []impl.Mark {
	t.Helper()
	s, ok := impl.StampRead(text)
	if !ok {
		t.Fatalf("StampRead(%q) is false", text)
	}
	return s
}
