package tests

import (
	"slices"
	"testing"
	"unsafe"

	"loop.example/bedstone/impl"
)

// guarded is a stamp with room behind its end, and that room's whole, to see whether it is written into.
func guarded(s []impl.Mark) (part []impl.Mark, whole []impl.Mark) {
	whole = slices.Clone(s)
	for range 16 {
		whole = append(whole, impl.Mark{Src: "guard", Ver: -7})
	}
	return whole[:len(s)], whole
}

// scribble writes into an answer, its spare room included.
func scribble(s []impl.Mark) {
	s = s[:cap(s)]
	for i := range s {
		s[i] = impl.Mark{Src: "written", Ver: -1}
	}
}

func TestAnswersAreNewMemory(t *testing.T) {
	stamps := [][]impl.Mark{nil, row("abc", 1), row("bcd", 2), row("abcdefghijkl", 3), row("mn", 4)}
	for _, bad := range badStamps() {
		stamps = append(stamps, bad)
	}
	for _, x := range stamps {
		for _, y := range stamps {
			checkNewMemory(t, x, y)
		}
	}
}

func checkNewMemory(t *testing.T, x []impl.Mark, y []impl.Mark) {
	t.Helper()
	a, wholeA := guarded(x)
	b, wholeB := guarded(y)
	wantA, wantB := slices.Clone(wholeA), slices.Clone(wholeB)
	join, _ := impl.StampJoin(a, b)
	only := impl.StampOnly(a, []string{"a", "b", "l"})
	read, _ := impl.StampRead(impl.StampText(a))
	impl.StampOk(a)
	impl.StampGet(a, "a")
	impl.StampAgree(a, b)
	impl.StampOrder(a, b)
	for _, answer := range [][]impl.Mark{join, only, read} {
		scribble(answer)
	}
	if !slices.Equal(wholeA, wantA) || !slices.Equal(wholeB, wantB) {
		t.Fatalf("%v and %v: an argument was written into", x, y)
	}
}

func TestOnlyLeavesTheNames(t *testing.T) {
	names := []string{"b", "a", "b", "guard"}
	impl.StampOnly(row("abc", 1), names[:3])
	if !slices.Equal(names, []string{"b", "a", "b", "guard"}) {
		t.Error(names)
	}
}

// The names in an answer are new memory, too.
func TestNamesOfAnswersAreNew(t *testing.T) {
	src := string([]byte("abcdefgh"))
	s := []impl.Mark{{Src: src, Ver: 1}}
	text := string([]byte("abcdefgh:1"))
	join, _ := impl.StampJoin(s, s)
	joinNil, _ := impl.StampJoin(nil, s)
	read, _ := impl.StampRead(text)
	for _, answer := range [][]impl.Mark{join, joinNil, impl.StampOnly(s, []string{src}), read} {
		if len(answer) != 1 || answer[0] != s[0] {
			t.Fatal(answer)
		}
		at := unsafe.StringData(answer[0].Src)
		if at == unsafe.StringData(src) || at == unsafe.StringData(text) {
			t.Error("a name is shared with an argument")
		}
	}
}
