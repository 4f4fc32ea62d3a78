// Package impl: stamps, windows, and what agrees.
package impl

import (
	"iter"
	"slices"
	"strconv"
	"strings"
)

// Limits of stamps.
const (
	StampMaxSrc  = 12
	StampMaxVer  = 1 << 40
	StampMaxText = 400
)

// How two stamps stand.
const (
	StampSame  = 0
	StampLess  = 1
	StampMore  = 2
	StampApart = 3
	StampBad   = 4
)

const (
	nameMaxBytes   = 8
	stampEmptyText = "-"
)

// Mark is a version of a source.
type Mark struct {
	Src string
	Ver int
}

// StampOk tells whether marks are a stamp.
func StampOk(s []Mark) bool {
	if len(s) > StampMaxSrc {
		return false
	}
	for i, m := range s {
		if !m.ok() || i > 0 && s[i-1].Src >= m.Src {
			return false
		}
	}
	return true
}

// StampGet is the version that a stamp has of a source.
func StampGet(s []Mark, src string) int {
	if !StampOk(s) {
		return 0
	}
	for _, m := range s {
		if m.Src == src {
			return m.Ver
		}
	}
	return 0
}

// StampJoin is the least stamp that is not below two.
func StampJoin(a []Mark, b []Mark) ([]Mark, bool) {
	if !StampOk(a) || !StampOk(b) {
		return nil, false
	}
	var join []Mark
	for x, y := range sideBySide(a, b) {
		if len(join) == StampMaxSrc {
			return nil, false
		}
		join = append(join, x.later(y).fresh())
	}
	return join, true
}

// StampAgree tells whether two stamps have the same versions of what both have.
func StampAgree(a []Mark, b []Mark) bool {
	if !StampOk(a) || !StampOk(b) {
		return false
	}
	for x, y := range sideBySide(a, b) {
		if x.had() && y.had() && x != y {
			return false
		}
	}
	return true
}

// StampOrder tells how two stamps stand.
func StampOrder(a []Mark, b []Mark) int {
	if !StampOk(a) || !StampOk(b) {
		return StampBad
	}
	order := StampSame
	for x, y := range sideBySide(a, b) {
		if x == y {
			continue
		}
		one := StampLess
		if x.later(y) == x {
			one = StampMore
		}
		if order != StampSame && order != one {
			return StampApart
		}
		order = one
	}
	return order
}

// StampOnly is what a stamp has of some sources.
func StampOnly(s []Mark, names []string) []Mark {
	if !StampOk(s) {
		return nil
	}
	var only []Mark
	for _, m := range s {
		if slices.Contains(names, m.Src) {
			only = append(only, m.fresh())
		}
	}
	return only
}

// StampText writes a stamp.
func StampText(s []Mark) string {
	if !StampOk(s) {
		return ""
	}
	if len(s) == 0 {
		return stampEmptyText
	}
	var words []string
	for _, m := range s {
		words = append(words, m.text())
	}
	return strings.Join(words, " ")
}

// StampRead reads a stamp.
func StampRead(text string) ([]Mark, bool) {
	if len(text) > StampMaxText {
		return nil, false
	}
	if text == stampEmptyText {
		return nil, true
	}
	r := stampReader{text: text}
	s, ok := r.marks()
	if !ok || !StampOk(s) {
		return nil, false
	}
	return s, true
}

// ok tells whether a mark may stand in a stamp.
func (m Mark) ok() bool {
	return nameOk(m.Src) && m.Ver >= 1 && m.Ver <= StampMaxVer
}

// had tells whether a stamp had the mark: sideBySide puts the version 0, which no stamp has, where it had none.
func (m Mark) had() bool {
	return m.Ver > 0
}

// later is the one of two marks of a source with the greater version.
func (m Mark) later(n Mark) Mark {
	if m.Ver < n.Ver {
		return n
	}
	return m
}

// fresh is the mark with a name of its own, as an answer shares no memory with an argument.
func (m Mark) fresh() Mark {
	return Mark{Src: strings.Clone(m.Src), Ver: m.Ver}
}

// freshMarks are the marks in a list and with names of their own.
func freshMarks(s []Mark) []Mark {
	list := make([]Mark, 0, len(s))
	for _, m := range s {
		list = append(list, m.fresh())
	}
	return list
}

// text writes a mark.
func (m Mark) text() string {
	return m.Src + ":" + strconv.Itoa(m.Ver)
}

// sideBySide tells, for each source that one of two stamps has, the marks of both; one that has none has the version 0.
func sideBySide(a []Mark, b []Mark) iter.Seq2[Mark, Mark] {
	return func(yield func(Mark, Mark) bool) {
		i, j := 0, 0
		for i < len(a) || j < len(b) {
			x, y := firstOfBoth(a[i:], b[j:])
			if !yield(x, y) {
				return
			}
			if x.had() {
				i++
			}
			if y.had() {
				j++
			}
		}
	}
}

// firstOfBoth is what two rests of stamps, not both empty, have of their first source.
func firstOfBoth(a []Mark, b []Mark) (Mark, Mark) {
	if len(b) == 0 || len(a) > 0 && a[0].Src < b[0].Src {
		return a[0], Mark{Src: a[0].Src}
	}
	if len(a) == 0 || b[0].Src < a[0].Src {
		return Mark{Src: b[0].Src}, b[0]
	}
	return a[0], b[0]
}

// nameOk tells whether a text is a name.
func nameOk(name string) bool {
	if len(name) < 1 || len(name) > nameMaxBytes {
		return false
	}
	for i := range len(name) {
		if !isNameByte(name[i]) {
			return false
		}
	}
	return true
}

func isNameByte(c byte) bool {
	return c >= 'a' && c <= 'z' || isDigit(c) || c == '-'
}

func isDigit(c byte) bool {
	return c >= '0' && c <= '9'
}

// stampReader goes through a stamp's text byte by byte.
type stampReader struct {
	text string
	at   int
}

// marks reads one mark or more with one blank between two, up to the end; whether they are a stamp is not asked here.
func (r *stampReader) marks() ([]Mark, bool) {
	var s []Mark
	for {
		m, ok := r.mark()
		if !ok {
			return nil, false
		}
		s = append(s, m)
		if r.at == len(r.text) {
			return s, true
		}
		if !r.take(' ') {
			return nil, false
		}
	}
}

// mark reads name, colon and version; StampOk asks later how long the name is.
func (r *stampReader) mark() (Mark, bool) {
	src := r.name()
	if !r.take(':') {
		return Mark{}, false
	}
	ver, ok := r.version()
	return Mark{Src: src, Ver: ver}, ok
}

// name copies what it reads, as a piece of the text would keep the whole of it.
func (r *stampReader) name() string {
	var name []byte
	for isNameByte(r.peek()) {
		name = append(name, r.peek())
		r.at++
	}
	return string(name)
}

// version stops at what is above StampMaxVer, so that no row of digits wraps round.
func (r *stampReader) version() (int, bool) {
	if r.peek() == '0' {
		return 0, false
	}
	ver := 0
	for isDigit(r.peek()) {
		ver = ver*10 + int(r.peek()-'0')
		if ver > StampMaxVer {
			return 0, false
		}
		r.at++
	}
	return ver, ver > 0
}

// take goes past a byte if it is the next one.
func (r *stampReader) take(c byte) bool {
	if r.at == len(r.text) || r.text[r.at] != c {
		return false
	}
	r.at++
	return true
}

// peek is the next byte; at the end it is 0, which is part of no mark.
func (r *stampReader) peek() byte {
	if r.at == len(r.text) {
		return 0
	}
	return r.text[r.at]
}
