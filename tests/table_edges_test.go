package tests

import (
	"slices"
	"strings"
	"testing"
	"unsafe"

	"loop.example/bedstone/impl"
)

const exampleText = `ins a b
put a 5 x:1 y:1
put b 7 y:2 z:1
put b 6 y:1 z:2
put a 8 x:1 y:2
best
last b`

const exampleTold = `ok
kept
kept
old
shows 8 7 @ x:1 y:2 z:1
1 0
7 @ y:2 z:1
`

func TestExampleOfTheDocument(t *testing.T) {
	for _, end := range []string{"", "\n", "\n\n"} {
		if got := impl.TableRun(exampleText + end); got != exampleTold {
			t.Errorf("%q", got)
		}
	}
	if got := impl.TableRun("\n\n" + strings.ReplaceAll(exampleText, "\n", "\n\n")); got != exampleTold {
		t.Errorf("with empty lines: %q", got)
	}
}

func TestLimitsOfTexts(t *testing.T) {
	if impl.TableMaxText != 3000 || impl.TableMaxLines != 80 {
		t.Error("limits")
	}
	for size, want := range map[int]string{1: "?\n", 2999: "?\n", 3000: "?\n", 3001: "long\n", 100000: "long\n"} {
		if got := impl.TableRun(strings.Repeat("x", size)); got != want {
			t.Errorf("%d bytes: %q", size, got)
		}
	}
	head := "ins a\nput a 1 x:1\n"
	for size, want := range map[int]string{2999: "ok\nshows 1 @ x:1\n?\n1\n", 3000: "ok\nshows 1 @ x:1\n?\n1\n", 3001: "long\n"} {
		text := head + strings.Repeat(" ", size-len(head)-len("\ncount")) + "\ncount"
		if got := impl.TableRun(text); len(text) != size || got != want {
			t.Errorf("%d bytes of lines: %q", len(text), got)
		}
	}
}

func TestLimitsOfLines(t *testing.T) {
	for lines, want := range map[int]string{79: "", 80: "", 81: "long\n", 82: "long\n", 3001: "long\n"} {
		if got := impl.TableRun(strings.Repeat("\n", lines-1)); got != want {
			t.Errorf("%d empty lines: %q", lines, got)
		}
	}
	for lines := 78; lines <= 82; lines++ {
		counts := strings.TrimSuffix(strings.Repeat("count\n", lines), "\n")
		want := strings.Repeat("0\n", lines)
		if lines > 80 {
			want = "long\n"
		}
		if got := impl.TableRun(counts); got != want {
			t.Errorf("%d lines: %q", lines, got)
		}
		if lines >= 80 {
			want = "long\n"
		}
		if got := impl.TableRun(counts + "\n"); got != want {
			t.Errorf("%d lines and a byte 10 at the end: %q", lines, got)
		}
	}
}

// checkLines holds what single texts tell against what is wanted.
func checkLines(t *testing.T, wants map[string]string) {
	t.Helper()
	for text, want := range wants {
		if got := impl.TableRun(text); got != want {
			t.Errorf("%q tells %q, want %q", text, got, want)
		}
	}
}

func TestLinesWithoutAGatherer(t *testing.T) {
	checkLines(t, map[string]string{
		"": "", "\n": "", "\n\n\n": "",
		"count": "0\n", "best": "none\n", "last a": "no\n", "last ": "no\n", "put a 1 x:1": "no\n", "put a 1 -": "no\n", "put  1 x:1": "no\n",
		"count\n": "0\n", "\ncount": "0\n", "count\n\nbest": "0\nnone\n",
	})
}

func TestLinesOfInputs(t *testing.T) {
	checkLines(t, map[string]string{
		"ins": "?\n", "ins ": "no\n", "ins a ": "no\n", "ins  a": "no\n", "ins a  b": "no\n", "ins  ": "no\n",
		"ins a": "ok\n", "ins -": "ok\n", "ins /": "no\n", "ins ins put count": "ok\n", "ins abcdefgh": "ok\n", "ins abcdefghi": "no\n", "ins A": "no\n", "ins a:1": "no\n", "ins a\r": "no\n", "ins a\tb": "no\n", "ins \xff": "no\n",
		"ins a b c d e f": "ok\n", "ins a b c d e f g": "no\n", "ins a a": "no\n", "ins a b a": "no\n", " ins a": "?\n", "Ins a": "?\n", "insa": "?\n", "ins\ta": "?\n",
		"ins a\nput a 1 x:1\nins a a\nlast a\ncount": "ok\nshows 1 @ x:1\nno\n1 @ x:1\n1\n",
		"ins a\nput a 1 x:1\nins\nlast a\ncount":     "ok\nshows 1 @ x:1\n?\n1 @ x:1\n1\n",
		"ins a\nput a 1 x:1\nins a\nlast a\ncount":   "ok\nshows 1 @ x:1\nok\nnone\n0\n",
		"ins a\nput a 1 x:1\nins b\nlast a\nlast b":  "ok\nshows 1 @ x:1\nok\nno\nnone\n",
		"ins a\nput a 9 x:9\nins a\nput a 1 x:1":     "ok\nshows 9 @ x:9\nok\nshows 1 @ x:1\n",
		"ins a\nins a b c d e f g\nlast a\nlast b":   "ok\nno\nnone\nno\n",
	})
}

func TestLinesOfNumbers(t *testing.T) {
	for _, number := range []string{"0", "1", "-1", "10", "-10", "999999999999999999", "-999999999999999999", "100000000000000000", "-100000000000000000"} {
		if got := impl.TableRun("ins a\nput a " + number + " x:1\nlast a"); got != "ok\nshows "+number+" @ x:1\n"+number+" @ x:1\n" {
			t.Errorf("%s: %q", number, got)
		}
	}
	for _, word := range []string{
		"", "-", "--1", "-0", "00", "01", "-01", "+1", "+0", "1_0", "0x1", "1.0", "1e3", "a", "1a", "a1", "1:1", "x:1", "/", "1\t", "\r", "१", "1\x00",
		"1000000000000000000", "-1000000000000000000", "9223372036854775807", "-9223372036854775808", "9223372036854775808", "0000000000000000001", "18446744073709551617", strings.Repeat("9", 2000),
	} {
		for _, head := range []string{"", "ins a\n", "ins b\n"} {
			got := impl.TableRun(head + "put a " + word + " x:1\ncount")
			if want := strings.Repeat("ok\n", strings.Count(head, "\n")) + "?\n0\n"; got != want {
				t.Errorf("%q: %q", word, got)
			}
		}
	}
}

// badStampTexts are words that are no STAMP.
func badStampTexts() []string {
	texts := []string{
		"", " ", "x", "x:", ":1", "x:0", "x:01", "x:-1", "x:+1", "x:1 ", " x:1", "x:1  y:1", "y:1 x:1", "x:1 x:1", "x:1 x:2", "X:1", "x:1:2", "- -", "- x:1", "x:1 -", "--", "-:", "x:1\ty:1", "x:1\r",
		"abcdefghi:1", "x:1099511627777", "x:99999999999999999999", "a:1 b:1 c:1 d:1 e:1 f:1 g:1 h:1 i:1 j:1 k:1 l:1 m:1", "x :1", "x: 1", "x:1,y:1", "\xff:1", strings.Repeat("x:1 ", 200) + "x:1",
	}
	return texts
}

func TestLinesOfWhatIsNoStamp(t *testing.T) {
	for _, text := range badStampTexts() {
		checkLines(t, map[string]string{
			"put a 1 " + text:                                "?\n",
			"ins a\nput a 1 " + text + "\nlast a":            "ok\n?\nnone\n",
			"ins a\nput a 1 w:1\nput a 2 " + text + "\nbest": "ok\nshows 1 @ w:1\n?\n0\n",
			"order " + text + " / x:1":                       "?\n",
			"order x:1 / " + text:                            "?\n",
			"join " + text + " / x:1":                        "?\n",
			"join x:1 / " + text:                             "?\n",
			"join " + text + " / " + text:                    "?\n",
		})
	}
}

func TestLinesOfFeeds(t *testing.T) {
	checkLines(t, map[string]string{
		"ins a\nput": "ok\n?\n", "ins a\nput a": "ok\n?\n", "ins a\nput a 1": "ok\n?\n", "ins a\nput a 1 ": "ok\n?\n", "ins a\nput ": "ok\n?\n", "ins a\nput   ": "ok\n?\n",
		"ins a\nput a x:1": "ok\n?\n", "ins a\nput 1 a x:1": "ok\n?\n", "ins a\nput a 1 2 x:1": "ok\n?\n", "ins a\nput  a 1 x:1": "ok\n?\n", "ins a\nput a  1 x:1": "ok\n?\n", "ins a\nput a 1  x:1": "ok\n?\n", "ins a\nput a 1 x:1 ": "ok\n?\n", "ins a\n put a 1 x:1": "ok\n?\n",
		"ins a\nput b 1 x:1\ncount": "ok\nno\n0\n", "ins a\nput A 1 x:1": "ok\nno\n", "ins a\nput  1 x:1": "ok\nno\n", "ins a\nput 0 1 x:1": "ok\nno\n", "ins a\nput - 1 x:1": "ok\nno\n",
		"ins a\nput b 01 x:1": "ok\n?\n", "ins a\nput b 1 x:0": "ok\n?\n", "ins a\nput b 1 -": "ok\nno\n", "ins a\nput a 1 -\nlast a": "ok\nbad\nnone\n",
		"ins a\nput a 1 x:1\nput a 2 -\nlast a\nput a 3 x:2":      "ok\nshows 1 @ x:1\nbad\n1 @ x:1\nshows 3 @ x:2\n",
		"ins a\nput a 1 x:1\nput a 2 x:1\nlast a":                 "ok\nshows 1 @ x:1\nold\n1 @ x:1\n",
		"ins a\nput a 1 x:2\nput a 2 x:1\nput a 3 x:3 y:1":        "ok\nshows 1 @ x:2\nold\nold\n",
		"ins - 9\nput 9 -4 -:1 9:2\nput - 5 -:1":                  "ok\nkept\nshows 5 -4 @ -:1 9:2\n",
		"ins a b\nput a 1 x:1\nput b 2 x:2\nlast a\nlast b\nbest": "ok\nkept\nkept\n1 @ x:1\n2 @ x:2\nnone\n",
	})
}

// Twelve sources are shown; with thirteen all is full, and what came stays in its window.
func TestLinesOfWhatIsFull(t *testing.T) {
	head := "ins a b\nput a 1 a:1 b:1 c:1 d:1 e:1 f:1 g:1 h:1\n"
	checkLines(t, map[string]string{
		head + "put b 2 h:1 i:1 j:1 k:1 l:1\ncount":                                                                       "ok\nkept\nshows 1 2 @ a:1 b:1 c:1 d:1 e:1 f:1 g:1 h:1 i:1 j:1 k:1 l:1\n1\n",
		head + "put b 2 h:1 i:1 j:1 k:1 l:1 m:1\nlast b\nbest":                                                            "ok\nkept\nfull\n2 @ h:1 i:1 j:1 k:1 l:1 m:1\n0 0\n",
		head + "put b 2 h:2 i:1 j:1 k:1 l:1 m:1\nlast b\nbest":                                                            "ok\nkept\nkept\n2 @ h:2 i:1 j:1 k:1 l:1 m:1\nnone\n",
		head + "put b 2 h:1 i:1 j:1 k:1 l:1 m:1\nput b 3 h:1 i:1 j:1 k:1 l:1 m:2\nput b 3 h:1 i:1 j:1 k:1 l:1 m:2\ncount": "ok\nkept\nfull\nfull\nold\n2\n",
	})
}

func TestLinesOfOneWord(t *testing.T) {
	for _, word := range []string{"count", "best"} {
		for _, line := range []string{word + " ", " " + word, word + " a", word + "  ", word + " -", word + "s", strings.ToUpper(word), word + "\r", word + "\t", word + "\x00"} {
			checkLines(t, map[string]string{line: "?\n", "ins a\n" + line: "ok\n?\n"})
		}
	}
	checkLines(t, map[string]string{
		"ins a b\nbest\ncount": "ok\nnone\n0\n",
		"ins a\nput a 1 x:1\nput a 1 x:2\nput a 1 x:3\nput a 1 x:4\nput a 1 x:5\ncount\nbest": "ok\nshows 1 @ x:1\nshows 1 @ x:2\nshows 1 @ x:3\nshows 1 @ x:4\nshows 1 @ x:5\n4\n3\n",
	})
}

func TestLinesOfLast(t *testing.T) {
	checkLines(t, map[string]string{
		"ins a\nlast": "ok\n?\n", "ins a\nlast a": "ok\nnone\n", "ins a\nlast a ": "ok\n?\n", "ins a\nlast  a": "ok\n?\n", "ins a\nlast a a": "ok\n?\n", "ins a\nlast b": "ok\nno\n", "ins a\nlast ": "ok\nno\n", "ins a\nlast A": "ok\nno\n", "ins a\nlast 0": "ok\nno\n",
		"ins a\nput a -7 x:1 y:20\nlast a": "ok\nshows -7 @ x:1 y:20\n-7 @ x:1 y:20\n",
	})
}

func TestLinesOfTwoStamps(t *testing.T) {
	checkLines(t, map[string]string{
		"order x:1 / x:1": "same\n", "order x:1 / x:2": "less\n", "order x:2 / x:1": "more\n", "order x:1 / y:1": "apart\n", "order - / -": "same\n", "order - / x:1": "less\n", "order x:1 y:1 / y:1": "more\n", "order x:1 y:2 / x:2 y:1": "apart\n",
		"join x:1 / x:2": "x:2\n", "join x:2 y:1 / x:1 z:3": "x:2 y:1 z:3\n", "join - / -": "-\n", "join - / x:1": "x:1\n",
		"join a:1 b:1 c:1 d:1 e:1 f:1 / g:1 h:1 i:1 j:1 k:1 l:1":     "a:1 b:1 c:1 d:1 e:1 f:1 g:1 h:1 i:1 j:1 k:1 l:1\n",
		"join a:1 b:1 c:1 d:1 e:1 f:1 / g:1 h:1 i:1 j:1 k:1 l:1 m:1": "no\n",
	})
	for _, words := range []string{
		"", " ", " /", " / ", " / /", " x:1", " x:1 x:2", " x:1 /", " x:1 / ", " / x:1", "  / x:1", " x:1 / / x:2", " x:1 / x:2 /", " / x:1 / x:2", " x:1 / y:1 / z:1", " x:1 //  x:2", " x:1 // x:2",
		" x:1/x:2", " x:1/ x:2", " x:1 /x:2", "  x:1 / x:2", " x:1  / x:2", " x:1 /  x:2", " x:1 / x:2 ", " - / - -", " - / - / -",
	} {
		checkLines(t, map[string]string{"order" + words: "?\n", "join" + words: "?\n"})
	}
}

func TestOtherLines(t *testing.T) {
	for _, line := range []string{" ", "  ", "?", "hello", "ok", "puts a 1 x:1", "PUT a 1 x:1", "-", "/", "x:1", "\r", "\t", "\x00", "\xff\xfe", "é", "1", "orders - / -", "long"} {
		checkLines(t, map[string]string{line: "?\n", "ins a\n" + line + "\nlast a": "ok\n?\nnone\n", line + "\n" + line: "?\n?\n"})
	}
	for c := range 256 {
		if c != '\n' {
			checkLines(t, map[string]string{string([]byte{byte(c)}): "?\n"})
		}
	}
}

// A line that is none leaves the lines behind it as they were.
func TestWrongLinesDoNothing(t *testing.T) {
	wrong := []string{"?", "ins", "put", "put a 01 x:9", "put a 9 x:0", "put a 9", "put b 9 y:9 z:9 ", "count 1", "best ", "last", "order", "join x:1", " put a 9 x:9 y:9"}
	lines := strings.Split(exampleText, "\n")
	told := strings.SplitAfter(exampleTold, "\n")
	for place := range lines {
		all := slices.Concat(lines[:place], wrong, lines[place:])
		want := strings.Join(told[:place], "") + strings.Repeat("?\n", len(wrong)) + strings.Join(told[place:], "")
		if got := impl.TableRun(strings.Join(all, "\n")); got != want {
			t.Errorf("wrong lines at %d: %q, want %q", place, got, want)
		}
	}
}

// No run leaves anything to the next one.
func TestTablesKeepNothing(t *testing.T) {
	for range 3 {
		if got := impl.TableRun("last a\ncount\nins a\nput a 1 x:1"); got != "no\n0\nok\nshows 1 @ x:1\n" {
			t.Fatalf("%q", got)
		}
	}
}

func TestToldIsNewMemory(t *testing.T) {
	text := string([]byte("?\n"))
	if got := impl.TableRun(text); got != text || unsafe.StringData(got) == unsafe.StringData(text) {
		t.Errorf("%q", got)
	}
}
