package tests

import (
	"regexp"
	"slices"
	"strconv"
	"strings"

	"loop.example/bedstone/impl"
)

const stampForm = `(-|[a-z0-9-]{1,8}:[1-9][0-9]*(?: [a-z0-9-]{1,8}:[1-9][0-9]*)*)`

// The lines by their forms, which the program reads by words instead.
var (
	insForm  = regexp.MustCompile(`^ins (.*)$`)
	putForm  = regexp.MustCompile(`^put ([^ ]*) (0|-?[1-9][0-9]{0,17}) ` + stampForm + `$`)
	lastForm = regexp.MustCompile(`^last ([^ ]*)$`)
	twoForm  = regexp.MustCompile(`^(order|join) ` + stampForm + ` / ` + stampForm + `$`)
	nameForm = regexp.MustCompile(`^[a-z0-9-]{1,8}$`)
)

// tableModel is a table as the document tells it, above the gatherer as it is told.
type tableModel struct {
	ins   []string
	model *gatherer
}

func (m *tableModel) run(text string) string {
	lines := strings.Split(text, "\n")
	if len(text) > 3000 || len(lines) > 80 {
		return "long\n"
	}
	told := ""
	for _, line := range lines {
		if line != "" {
			told += m.tell(line) + "\n"
		}
	}
	return told
}

func (m *tableModel) tell(line string) string {
	if line == "count" {
		return strconv.Itoa(m.count())
	}
	if line == "best" {
		return m.best()
	}
	if parts := insForm.FindStringSubmatch(line); parts != nil {
		return m.begin(strings.Split(parts[1], " "))
	}
	if parts := lastForm.FindStringSubmatch(line); parts != nil {
		return m.last(parts[1])
	}
	if parts := putForm.FindStringSubmatch(line); parts != nil {
		return m.put(parts[1], parts[2], parts[3])
	}
	if parts := twoForm.FindStringSubmatch(line); parts != nil {
		return m.two(parts[1], parts[2], parts[3])
	}
	return "?"
}

func (m *tableModel) begin(ins []string) string {
	for i, name := range ins {
		if !nameForm.MatchString(name) || slices.Index(ins, name) < i {
			return "no"
		}
	}
	if len(ins) > 6 {
		return "no"
	}
	m.ins, m.model = ins, newGatherer(len(ins))
	return "ok"
}

func (m *tableModel) put(name string, number string, text string) string {
	stamp, ok := readBySplitting(text)
	if !ok {
		return "?"
	}
	in := slices.Index(m.ins, name)
	if in < 0 {
		return "no"
	}
	val, _ := strconv.Atoi(number)
	show, code := m.model.put(impl.Feed{In: in, Item: impl.Item{Val: val, Stamp: stamp}})
	return toldOf(show, code)
}

// toldOf is what a table tells of a feed.
func toldOf(show impl.Show, code int) string {
	if code != impl.GatherShows {
		return map[int]string{impl.GatherKept: "kept", impl.GatherBad: "bad", impl.GatherOld: "old", impl.GatherFull: "full"}[code]
	}
	told := "shows "
	for _, val := range show.Vals {
		told += strconv.Itoa(val) + " "
	}
	return told + "@ " + marksText(show.Stamp)
}

// marksText writes marks, a stamp or not, as stamps are written.
func marksText(s []impl.Mark) string {
	text := ""
	for _, m := range s {
		text += " " + m.Src + ":" + strconv.Itoa(m.Ver)
	}
	if text == "" {
		return "-"
	}
	return text[1:]
}

func (m *tableModel) count() int {
	if m.model == nil {
		return 0
	}
	return len(agreeing(m.model.wins()))
}

func (m *tableModel) best() string {
	if m.count() == 0 {
		return "none"
	}
	picks := agreeing(m.model.wins())
	best := picks[0]
	for _, pick := range picks {
		best = laterOf(best, pick)
	}
	var words []string
	for _, place := range best {
		words = append(words, strconv.Itoa(place))
	}
	return strings.Join(words, " ")
}

func (m *tableModel) last(name string) string {
	in := slices.Index(m.ins, name)
	if in < 0 {
		return "no"
	}
	all := m.model.inputs[in]
	if len(all) == 0 {
		return "none"
	}
	it := all[len(all)-1]
	return strconv.Itoa(it.Val) + " @ " + marksText(it.Stamp)
}

func (m *tableModel) two(command string, a string, b string) string {
	one, okOne := readBySplitting(a)
	other, okOther := readBySplitting(b)
	if !okOne || !okOther {
		return "?"
	}
	v, w := versionsOf(one), versionsOf(other)
	if command == "join" {
		if join := v.joined(w).marks(); len(join) <= 12 {
			return marksText(join)
		}
		return "no"
	}
	return map[[2]bool]string{{true, true}: "same", {true, false}: "less", {false, true}: "more", {false, false}: "apart"}[[2]bool{v.notAbove(w), w.notAbove(v)}]
}
