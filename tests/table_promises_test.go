package tests

import (
	"math/rand"
	"strconv"
	"strings"
	"testing"

	"loop.example/bedstone/impl"
)

// playLines are a play's lines: its inputs, and a line a feed.
func playLines(p play) []string {
	lines := []string{"ins " + strings.Join(p.ins, " ")}
	for _, f := range p.feeds {
		name := "nobody"
		if f.In >= 0 && f.In < len(p.ins) {
			name = p.ins[f.In]
		}
		lines = append(lines, "put "+name+" "+strconv.Itoa(f.Item.Val)+" "+marksText(f.Item.Stamp))
	}
	return lines
}

// fitting is the longest beginning of a play whose lines have at most TableMaxText bytes.
func fitting(p play) play {
	for len(strings.Join(playLines(p), "\n")) > impl.TableMaxText {
		p.feeds = p.feeds[:len(p.feeds)-1]
	}
	return p
}

// toldOfPlay is what a table ought to tell of a play's lines, by what GatherPlay answers.
func toldOfPlay(p play) string {
	shows, codes := impl.GatherPlay(p.ins, p.feeds)
	told := "ok\n"
	for i, f := range p.feeds {
		show := impl.Show{}
		if codes[i] == impl.GatherShows {
			show, shows = shows[0], shows[1:]
		}
		switch {
		case !impl.StampOk(f.Item.Stamp):
			told += "?\n"
		case f.In < 0 || f.In >= len(p.ins):
			told += "no\n"
		default:
			told += toldOf(show, codes[i]) + "\n"
		}
	}
	return told
}

func TestP10ATableTellsWhatThePlayShows(t *testing.T) {
	shown := 0
	for _, p := range append(shortPlays(), somePlays(10, 840)...) {
		p = fitting(p)
		text := strings.Join(playLines(p), "\n")
		got, want := impl.TableRun(text), toldOfPlay(p)
		if got != want {
			t.Fatalf("%s\ntells\n%swant\n%s", text, got, want)
		}
		shown += strings.Count(got, "shows ")
	}
	if shown < 1000 {
		t.Errorf("only %d were shown", shown)
	}
}

// Lines that leave all as it is may stand between those of a play.
func TestP10OtherLinesBetween(t *testing.T) {
	between := []string{"", "count", "best", "last in-0", "last q", "order x:1 / x:2", "join x:1 / -", "?", "ins a a", "put q 1 x:1", "put in-0 1 x:0", "put in-0 1 -"}
	next := rand.New(rand.NewSource(11))
	for _, p := range somePlays(12, 210) {
		p.feeds = p.feeds[:25]
		p = fitting(p)
		var lines []string
		var places []int
		for _, line := range playLines(p) {
			lines = append(lines, between[next.Intn(len(between))], line)
			places = append(places, len(lines)-1)
		}
		if len(strings.Join(lines, "\n")) > impl.TableMaxText {
			continue
		}
		var told []string
		for _, place := range places {
			ahead := impl.TableRun(strings.Join(lines[:place], "\n"))
			upTo := impl.TableRun(strings.Join(lines[:place+1], "\n"))
			told = append(told, strings.TrimPrefix(upTo, ahead))
		}
		if got, want := strings.Join(told, ""), toldOfPlay(p); got != want {
			t.Fatalf("%s\ntells\n%swant\n%s", strings.Join(lines, "\n"), got, want)
		}
	}
}

// checkTable holds a text against the document's words.
func checkTable(t *testing.T, text string) {
	t.Helper()
	var m tableModel
	if got, want := impl.TableRun(text), m.run(text); got != want {
		t.Fatalf("%q\ntells\n%q\nwant\n%q", text, got, want)
	}
}

// All lines of up to five words out of a few.
func TestAllShortLines(t *testing.T) {
	lines := []string{"ins", "put", "count", "best", "last", "order", "join", "", "-", "Put"}
	longest := lines
	for range 4 {
		var more []string
		for _, line := range longest {
			for _, word := range []string{"", "a", "b", "-", "/", "1", "-5", "x:1", "y:2", "01"} {
				more = append(more, line+" "+word)
			}
		}
		lines = append(lines, more...)
		longest = more
	}
	for _, line := range lines {
		checkTable(t, line)
		checkTable(t, "ins a b\nput b 3 x:1\nput a 4 x:1 y:1\n"+line+"\nlast a\nlast b\nbest")
	}
}

// someLine is a line that mostly is one; some have a word changed, put in or taken out.
func someLine(next *rand.Rand) string {
	pick := func(words ...string) string { return words[next.Intn(len(words))] }
	stamp := func() string {
		return pick("x:", "y:", "z:") + strconv.Itoa(1+next.Intn(3))
	}
	if next.Intn(2) == 0 {
		stamp = func() string {
			return "x:" + strconv.Itoa(1+next.Intn(5)) + " y:" + strconv.Itoa(1+next.Intn(5))
		}
	}
	name := func() string { return pick("a", "a", "b", "b", "c") }
	line := ""
	switch next.Intn(16) {
	case 0:
		line = pick("ins a b", "ins a", "ins b a c", "ins a a", "ins a b c d e f", "ins a b c d e f g", "ins", "ins A")
	case 1:
		line = "count"
	case 2:
		line = "best"
	case 3, 4:
		line = "last " + name()
	case 5:
		line = "order " + stamp() + " / " + stamp()
	case 6:
		line = "join " + stamp() + " / " + stamp()
	default:
		line = "put " + name() + " " + strconv.Itoa(next.Intn(200)-100) + " " + stamp()
	}
	words := strings.Split(line, " ")
	at := next.Intn(len(words))
	switch next.Intn(40) {
	case 0:
		words[at] = pick("", "-", "/", "x:1", "q", "-0", "?")
	case 1:
		words = append(words[:at], words[at+1:]...)
	case 2:
		words = append(words, pick("", "-", "/", "z:9", "a", "b"))
	}
	return strings.Join(words, " ")
}

func TestTablesAreWhatTheDocumentSays(t *testing.T) {
	next := rand.New(rand.NewSource(13))
	for range 3000 {
		lines := []string{"ins a b"}
		for range next.Intn(impl.TableMaxLines) {
			lines = append(lines, someLine(next))
		}
		checkTable(t, strings.Join(lines, "\n"))
	}
}

// A beginning of a text, up to the end of a line, tells the beginning.
func TestABeginningOfATextTellsTheBeginning(t *testing.T) {
	next := rand.New(rand.NewSource(14))
	for range 100 {
		var lines []string
		for range 40 {
			lines = append(lines, someLine(next))
		}
		whole := impl.TableRun(strings.Join(lines, "\n"))
		for size := range lines {
			if begins := impl.TableRun(strings.Join(lines[:size], "\n")); !strings.HasPrefix(whole, begins) {
				t.Fatalf("%q tells %q, the first %d lines tell %q", lines, whole, size, begins)
			}
		}
	}
}
