package tests

import (
	"testing"

	"loop.example/bedstone/impl"
)

// eachPair goes through all pairs of the small stamps, and all of the wide ones.
func eachPair(check func(a []impl.Mark, b []impl.Mark)) {
	for _, stamps := range [][][]impl.Mark{smallStamps(), wideStamps()} {
		for _, a := range stamps {
			for _, b := range stamps {
				check(a, b)
			}
		}
	}
}

// eachTriple goes through all triples of the small stamps, and all of the wide ones.
func eachTriple(check func(a []impl.Mark, b []impl.Mark, c []impl.Mark)) {
	for _, stamps := range [][][]impl.Mark{smallStamps(), wideStamps()} {
		for _, a := range stamps {
			for _, b := range stamps {
				for _, c := range stamps {
					check(a, b, c)
				}
			}
		}
	}
}

func notAbove(a []impl.Mark, b []impl.Mark) bool {
	order := impl.StampOrder(a, b)
	return order == impl.StampSame || order == impl.StampLess
}

func TestP3JoinIsWhatTheDocumentSays(t *testing.T) {
	eachPair(func(a []impl.Mark, b []impl.Mark) {
		want := versionsOf(a).joined(versionsOf(b)).marks()
		fits := len(want) <= impl.StampMaxSrc
		if !fits {
			want = nil
		}
		if got, ok := impl.StampJoin(a, b); ok != fits || !sameMarks(got, want) {
			t.Fatalf("StampJoin(%v, %v) = %v %v, want %v %v", a, b, got, ok, want, fits)
		}
	})
}

func TestP3JoinInEitherOrder(t *testing.T) {
	eachPair(func(a []impl.Mark, b []impl.Mark) {
		ab, okAB := impl.StampJoin(a, b)
		ba, okBA := impl.StampJoin(b, a)
		if okAB != okBA || !sameMarks(ab, ba) {
			t.Fatalf("%v and %v: %v %v, but %v %v", a, b, ab, okAB, ba, okBA)
		}
	})
}

func TestP3JoinIsTheLeastNotBelowBoth(t *testing.T) {
	eachTriple(func(a []impl.Mark, b []impl.Mark, c []impl.Mark) {
		join, ok := impl.StampJoin(a, b)
		if !ok {
			if notAbove(a, c) && notAbove(b, c) {
				t.Fatalf("%v is not below %v and %v, which have no join", c, a, b)
			}
			return
		}
		if !impl.StampOk(join) || !notAbove(a, join) || !notAbove(b, join) {
			t.Fatalf("the join %v is below %v or %v", join, a, b)
		}
		if notAbove(a, c) && notAbove(b, c) && !notAbove(join, c) {
			t.Fatalf("the join %v of %v and %v is not the least: %v", join, a, b, c)
		}
	})
}

func TestP4OrderIsWhatTheDocumentSays(t *testing.T) {
	eachPair(func(a []impl.Mark, b []impl.Mark) {
		down := versionsOf(a).notAbove(versionsOf(b))
		up := versionsOf(b).notAbove(versionsOf(a))
		want := impl.StampApart
		switch {
		case down && up:
			want = impl.StampSame
		case down:
			want = impl.StampLess
		case up:
			want = impl.StampMore
		}
		if got := impl.StampOrder(a, b); got != want {
			t.Fatalf("StampOrder(%v, %v) = %d, want %d", a, b, got, want)
		}
	})
}

func TestP4OrderFromEitherSide(t *testing.T) {
	other := []int{impl.StampSame, impl.StampMore, impl.StampLess, impl.StampApart}
	eachPair(func(a []impl.Mark, b []impl.Mark) {
		ab, ba := impl.StampOrder(a, b), impl.StampOrder(b, a)
		if ab < 0 || ab >= len(other) || ba != other[ab] {
			t.Fatalf("%v and %v: %d, but %d", a, b, ab, ba)
		}
		if (ab == impl.StampSame) != sameMarks(a, b) {
			t.Fatalf("%v and %v: %d", a, b, ab)
		}
	})
}

func TestP4BelowWhatIsBelow(t *testing.T) {
	eachTriple(func(a []impl.Mark, b []impl.Mark, c []impl.Mark) {
		if notAbove(a, b) && notAbove(b, c) && !notAbove(a, c) {
			t.Fatalf("%v, %v, %v: not above", a, b, c)
		}
		below := impl.StampOrder(a, b) == impl.StampLess && impl.StampOrder(b, c) == impl.StampLess
		if below && impl.StampOrder(a, c) != impl.StampLess {
			t.Fatalf("%v, %v, %v: below", a, b, c)
		}
	})
}

func TestP5AgreeIsWhatTheDocumentSays(t *testing.T) {
	eachPair(func(a []impl.Mark, b []impl.Mark) {
		want := versionsOf(a).agrees(versionsOf(b))
		if got := impl.StampAgree(a, b); got != want {
			t.Fatalf("StampAgree(%v, %v) = %v", a, b, got)
		}
	})
}

func TestP5AgreeJustIfTheJoinHasTheVersionsOfBoth(t *testing.T) {
	eachPair(func(a []impl.Mark, b []impl.Mark) {
		join, ok := impl.StampJoin(a, b)
		if !ok {
			return
		}
		has := hasVersionsOf(join, a) && hasVersionsOf(join, b)
		if impl.StampAgree(a, b) != has {
			t.Fatalf("%v and %v, join %v: agree is %v", a, b, join, !has)
		}
	})
}

func hasVersionsOf(join []impl.Mark, s []impl.Mark) bool {
	for _, m := range s {
		if impl.StampGet(join, m.Src) != m.Ver {
			return false
		}
	}
	return true
}

func TestP6WhatIsWrittenIsReadAsIt(t *testing.T) {
	for _, s := range append(smallStamps(), wideStamps()...) {
		text := impl.StampText(s)
		if got, ok := impl.StampRead(text); !ok || !sameMarks(got, s) {
			t.Fatalf("%v is written %q and read %v %v", s, text, got, ok)
		}
	}
}

// All texts of up to six bytes out of those that a stamp's text is made of, and one that is in none.
func TestP6WhatIsReadIsWrittenSo(t *testing.T) {
	for _, text := range textsUpTo(6, "ab01-: A") {
		want, fits := readBySplitting(text)
		got, ok := impl.StampRead(text)
		if ok != fits || !sameMarks(got, want) {
			t.Fatalf("StampRead(%q) = %v %v, want %v %v", text, got, ok, want, fits)
		}
		if ok && impl.StampText(got) != text {
			t.Fatalf("%q is read %v and written %q", text, got, impl.StampText(got))
		}
	}
}
