package tests

import (
	"testing"

	"loop.example/bedstone/impl"
)

func TestLimitsOfStamps(t *testing.T) {
	if impl.StampMaxSrc != 12 || impl.StampMaxVer != 1099511627776 || impl.StampMaxText != 400 {
		t.Error("limits")
	}
	if impl.StampSame != 0 || impl.StampLess != 1 || impl.StampMore != 2 || impl.StampApart != 3 || impl.StampBad != 4 {
		t.Error("codes")
	}
}

func TestOkOfStamps(t *testing.T) {
	for _, s := range append(smallStamps(), wideStamps()...) {
		if !impl.StampOk(s) {
			t.Errorf("%v is a stamp", s)
		}
	}
	if !impl.StampOk([]impl.Mark{}) {
		t.Error("the empty list is a stamp")
	}
	for _, name := range []string{"a", "z", "0", "9", "-", "--------", "abcdefgh", "a-9"} {
		for _, ver := range []int{1, 2, 1099511627775, 1099511627776} {
			if !impl.StampOk([]impl.Mark{{Src: name, Ver: ver}}) {
				t.Errorf("%s with %d is a stamp", name, ver)
			}
		}
	}
}

func TestOkOfWhatIsNoStamp(t *testing.T) {
	for what, s := range badStamps() {
		if impl.StampOk(s) {
			t.Errorf("%s: %v is no stamp", what, s)
		}
	}
}

func TestOkOfEachByte(t *testing.T) {
	for c := range 256 {
		want := c >= 'a' && c <= 'z' || c >= '0' && c <= '9' || c == '-'
		for _, name := range []string{string([]byte{byte(c)}), string([]byte{'a', byte(c)}), string([]byte{byte(c), 'a'})} {
			if got := impl.StampOk([]impl.Mark{{Src: name, Ver: 1}}); got != want {
				t.Errorf("%q: %v", name, got)
			}
		}
	}
}

func TestGet(t *testing.T) {
	s := mustRead(t, "a:7 aa:1099511627776 b:1")
	for src, want := range map[string]int{"a": 7, "aa": 1099511627776, "b": 1, "": 0, "c": 0, "aaa": 0, "-": 0, "A": 0, "a:7": 0, "\xff": 0} {
		if got := impl.StampGet(s, src); got != want {
			t.Errorf("StampGet of %q: %d, want %d", src, got, want)
		}
	}
	if impl.StampGet(nil, "a") != 0 || impl.StampGet(nil, "") != 0 {
		t.Error("StampGet of the empty stamp")
	}
	for what, s := range badStamps() {
		for _, m := range s {
			if got := impl.StampGet(s, m.Src); got != 0 {
				t.Errorf("%s: StampGet of %q: %d", what, m.Src, got)
			}
		}
	}
}

func TestOnly(t *testing.T) {
	s := mustRead(t, "a:1 aa:2 b:3")
	for _, c := range []struct {
		names []string
		want  string
	}{
		{nil, "-"},
		{[]string{}, "-"},
		{[]string{""}, "-"},
		{[]string{"b", "a"}, "a:1 b:3"},
		{[]string{"aa", "aa", "aa"}, "aa:2"},
		{[]string{"", "q", "A", "a:1", "\xff", "abcdefghijkl", "b"}, "b:3"},
		{[]string{"b", "aa", "a", "a"}, "a:1 aa:2 b:3"},
	} {
		if got := impl.StampText(impl.StampOnly(s, c.names)); got != c.want {
			t.Errorf("StampOnly with %q: %q, want %q", c.names, got, c.want)
		}
	}
	if got := impl.StampOnly(nil, []string{"a"}); len(got) != 0 {
		t.Errorf("StampOnly of the empty stamp: %v", got)
	}
}

func TestOnlyOfWhatIsNoStamp(t *testing.T) {
	for what, s := range badStamps() {
		names := []string{"a", "b"}
		for _, m := range s {
			names = append(names, m.Src)
		}
		if got := impl.StampOnly(s, names); len(got) != 0 {
			t.Errorf("%s: %v", what, got)
		}
	}
}

func TestTwoOfWhichOneIsNoStamp(t *testing.T) {
	stamps := append(smallStamps(), wideStamps()...)
	for what, bad := range badStamps() {
		for _, s := range append(stamps, bad) {
			checkNoStamps(t, what, bad, s)
			checkNoStamps(t, what, s, bad)
		}
	}
}

func checkNoStamps(t *testing.T, what string, a []impl.Mark, b []impl.Mark) {
	t.Helper()
	if join, ok := impl.StampJoin(a, b); ok || len(join) != 0 {
		t.Errorf("%s: the join of %v and %v is %v %v", what, a, b, join, ok)
	}
	if impl.StampAgree(a, b) {
		t.Errorf("%s: %v and %v agree", what, a, b)
	}
	if got := impl.StampOrder(a, b); got != impl.StampBad {
		t.Errorf("%s: the order of %v and %v is %d", what, a, b, got)
	}
}

func TestJoinAtTheLimit(t *testing.T) {
	for _, c := range []struct {
		a, b string
		fits bool
	}{
		{"abcdef", "ghijkl", true},
		{"acegik", "bdfhjl", true},
		{"abcdefghijkl", "abcdefghijkl", true},
		{"abcdefghijkl", "l", true},
		{"abcdefghijkl", "m", false},
		{"bcdefghijklm", "a", false},
		{"abcdefg", "hijklm", false},
		{"abcdefghijkl", "mnopqrstuvwx", false},
	} {
		join, ok := impl.StampJoin(row(c.a, 1), row(c.b, 2))
		if ok != c.fits || ok && len(join) != 12 || !ok && len(join) != 0 {
			t.Errorf("%s and %s: %v %v", c.a, c.b, join, ok)
		}
	}
}

// Stamps whose join doesn't fit have an order and agree or not all the same.
func TestTwoThatDontFit(t *testing.T) {
	full, more := row("abcdefghijkl", 1), row("mnopqrstuvwx", 1)
	if !impl.StampAgree(full, more) || impl.StampOrder(full, more) != impl.StampApart {
		t.Error("nothing shared")
	}
	later := append(row("l", 2), row("m", 1)...)
	if impl.StampAgree(full, later) || impl.StampOrder(full, later) != impl.StampApart {
		t.Error("one shared")
	}
}
