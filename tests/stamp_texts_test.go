package tests

import (
	"strconv"
	"strings"
	"testing"

	"loop.example/bedstone/impl"
)

func textsUpTo(size int, letters string) []string {
	all := []string{""}
	longest := all
	for range size {
		var more []string
		for _, text := range longest {
			for _, letter := range strings.Split(letters, "") {
				more = append(more, text+letter)
			}
		}
		all = append(all, more...)
		longest = more
	}
	return all
}

// readBySplitting reads a text in another way than the program does, to hold both against each other.
func readBySplitting(text string) ([]impl.Mark, bool) {
	if text == "-" {
		return nil, true
	}
	var s []impl.Mark
	for _, word := range strings.Split(text, " ") {
		src, digits, ok := strings.Cut(word, ":")
		ver, err := strconv.Atoi(digits)
		if !ok || err != nil || strconv.Itoa(ver) != digits || ver < 1 || ver > impl.StampMaxVer {
			return nil, false
		}
		if len(src) < 1 || len(src) > 8 || strings.Trim(src, "abcdefghijklmnopqrstuvwxyz0123456789-") != "" {
			return nil, false
		}
		if len(s) > 0 && s[len(s)-1].Src >= src {
			return nil, false
		}
		s = append(s, impl.Mark{Src: src, Ver: ver})
	}
	return s, len(s) <= impl.StampMaxSrc
}

func TestTextOfStamps(t *testing.T) {
	for want, s := range map[string][]impl.Mark{
		"-":                        nil,
		"x:1":                      {{Src: "x", Ver: 1}},
		"x:10 y:2":                 {{Src: "x", Ver: 10}, {Src: "y", Ver: 2}},
		"-:1":                      {{Src: "-", Ver: 1}},
		"-:1 --:2 0:3 a:4":         {{Src: "-", Ver: 1}, {Src: "--", Ver: 2}, {Src: "0", Ver: 3}, {Src: "a", Ver: 4}},
		"abcdefgh:1099511627776":   {{Src: "abcdefgh", Ver: 1099511627776}},
		"a:1 ab:100 abc:100000000": {{Src: "a", Ver: 1}, {Src: "ab", Ver: 100}, {Src: "abc", Ver: 100000000}},
	} {
		if got := impl.StampText(s); got != want {
			t.Errorf("StampText(%v) = %q, want %q", s, got, want)
		}
		if got := mustRead(t, want); !sameMarks(got, s) {
			t.Errorf("StampRead(%q) = %v, want %v", want, got, s)
		}
	}
	if got := impl.StampText([]impl.Mark{}); got != "-" {
		t.Errorf("the empty list: %q", got)
	}
}

func TestTextOfWhatIsNoStamp(t *testing.T) {
	for what, s := range badStamps() {
		if got := impl.StampText(s); got != "" {
			t.Errorf("%s: %q", what, got)
		}
	}
}

func TestReadRefuses(t *testing.T) {
	for _, text := range []string{
		"", " ", ":", "--", "- ", " -", "- -", "- x:1", "x:1 -", "-:", ":1",
		"x", "x:", "x1", "x 1", "x: 1", "x :1", "x:1:2", "x::1", "x:1,y:1", "x:1y:1", "x:1\ty:1", "x:1\ny:1", "x:1\n",
		"x:1 ", " x:1", "x:1  y:1", "x:1 y:1 ", "x:1 y", "x:1 y:",
		"x:0", "x:00", "x:01", "x:-1", "x:+1", "x:1.0", "x:0x1", "x:1_0", "x:1e3", "x:1a", "x:1-",
		"y:1 x:1", "x:1 x:1", "x:1 x:2", "aa:1 a:1", "a:1 c:1 b:1",
		"X:1", "x_y:1", "x\x00:1", "\x00", "x:1\x00", "\xff:1", "é:1", "abcdefghi:1",
		"x:1099511627777", "x:9223372036854775807", "x:9223372036854775808",
		"x:18446744073709551616", "x:18446744073709551617", "x:" + strings.Repeat("9", 300),
		"a:1 b:1 c:1 d:1 e:1 f:1 g:1 h:1 i:1 j:1 k:1 l:1 m:1",
	} {
		if s, ok := impl.StampRead(text); ok || len(s) != 0 {
			t.Errorf("StampRead(%q) = %v %v", text, s, ok)
		}
	}
}

func TestReadAtTheLimits(t *testing.T) {
	var words []string
	for _, letter := range strings.Split("abcdefghijkl", "") {
		words = append(words, strings.Repeat(letter, 8)+":1099511627776")
	}
	longest := strings.Join(words, " ")
	if s := mustRead(t, longest); len(s) != impl.StampMaxSrc || impl.StampText(s) != longest {
		t.Errorf("the longest text: %v", s)
	}
	for _, end := range []string{" ", "1", "z", " m:1"} {
		if _, ok := impl.StampRead(longest + end); ok {
			t.Errorf("the longest text and %q", end)
		}
	}
}

// No stamp's text has so many bytes: both sides of the limit are refused, whatever the text begins with.
func TestReadOfLongTexts(t *testing.T) {
	for _, size := range []int{399, 400, 401, 4000, 1000000} {
		for _, begin := range []string{"", "-", "x:1", "x:1 "} {
			for _, fill := range []string{" ", "0", "1", "a", "-", ":", "\x00", " x:1"} {
				text := (begin + strings.Repeat(fill, size))[:size]
				if s, ok := impl.StampRead(text); ok || len(s) != 0 {
					t.Errorf("%d bytes of %q and %q: %v %v", size, begin, fill, s, ok)
				}
			}
		}
	}
}
