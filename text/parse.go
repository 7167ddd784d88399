package text

import (
	"strconv"
	"strings"

	"ratebook/api"
	"ratebook/table"
)

// Parse returns the good domain that the text s describes, and false, or the
// good table, and true.
func Parse(s string) (api.Domain, api.Table, bool, api.Errno) {
	if len(s) > api.MaxSource {
		return api.Domain{}, api.Table{}, false, api.ErrLong
	}
	p := &parser{rest: s}
	switch p.word() {
	case "domain":
		if d := p.domain(); p.ended() && GoodDomain(d) {
			return d, api.Table{}, false, api.OK
		}
	case "table":
		if t := p.table(); p.ended() && table.Good(t) {
			return api.Domain{}, t, true, api.OK
		}
	}
	return api.Domain{}, api.Table{}, false, api.ErrForm
}

// parser reads a text from its beginning to its end. After an error it goes on,
// but what it returns has no meaning any more.
type parser struct {
	rest string // what it has not read yet
	bad  bool   // whether an error has occurred
}

// domain reads what follows the word domain.
func (p *parser) domain() api.Domain {
	var d api.Domain
	d.Name = p.word()
	d.Lo = p.number()
	p.wants("..")
	d.Hi = p.number()
	return d
}

// table reads what follows the word table.
func (p *parser) table() api.Table {
	var t api.Table
	t.Name = p.word()
	t.Policy = p.policy()
	t.Complete = p.option("complete")
	p.wants("(")
	t.Inputs = p.inputs()
	p.wants(")")
	p.wants("{")
	// Without an error each rule reads at least one byte, so that the loop ends.
	for !p.bad && !p.takes("}") {
		t.Rules = append(t.Rules, p.rule())
	}
	return t
}

// policy reads the word for a policy and returns its number.
func (p *parser) policy() int {
	word := p.word()
	for n := api.Unique; n <= api.Count; n++ {
		if policies[n] == word {
			return n
		}
	}
	p.bad = true
	return 0
}

// inputs reads the names of inputs.
func (p *parser) inputs() []string {
	l := []string{p.word()}
	for p.takes(",") {
		l = append(l, p.word())
	}
	return l
}

// rule reads a rule and its semicolon.
func (p *parser) rule() api.Rule {
	var r api.Rule
	r.Cells = p.cells()
	p.wants("=>")
	r.Out = p.number()
	p.wants(";")
	return r
}

// cells reads the cells of a rule.
func (p *parser) cells() []api.Cell {
	l := []api.Cell{p.cell()}
	for p.takes(",") {
		l = append(l, p.cell())
	}
	return l
}

// cell reads a cell.
func (p *parser) cell() api.Cell {
	if p.takes("*") {
		return api.Cell{}
	}
	var c api.Cell
	c.Not = p.option("not")
	c.Ranges = p.ranges()
	return c
}

// ranges reads the ranges of a cell.
func (p *parser) ranges() []api.Range {
	l := []api.Range{p.oneRange()}
	for p.takes("|") {
		l = append(l, p.oneRange())
	}
	return l
}

// oneRange reads a range of a cell.
func (p *parser) oneRange() api.Range {
	lo := p.number()
	if !p.takes("..") {
		return api.Range{Lo: lo, Hi: lo}
	}
	hi := p.number()
	// Unlike a domain, a range of a single number is not written with two.
	if hi <= lo {
		p.bad = true
	}
	return api.Range{Lo: lo, Hi: hi}
}

// option reports whether a word follows, which must be the given one.
func (p *parser) option(word string) bool {
	next := p.word()
	if next != "" && next != word {
		p.bad = true
	}
	return next == word
}

// word reads a word, which is empty if no letter follows.
func (p *parser) word() string {
	p.skip()
	n := 0
	for n < len(p.rest) && 'a' <= p.rest[n] && p.rest[n] <= 'z' {
		n++
	}
	return p.cut(n)
}

// number reads a number.
func (p *parser) number() int {
	p.skip()
	n := 0
	if strings.HasPrefix(p.rest, "-") {
		n = 1
	}
	for n < len(p.rest) && '0' <= p.rest[n] && p.rest[n] <= '9' {
		n++
	}
	s := p.cut(n)
	number, err := strconv.Atoi(s)
	// Atoi accepts leading zeros and -0, which are not what Itoa writes.
	if err != nil || strconv.Itoa(number) != s {
		p.bad = true
		return 0
	}
	return number
}

// takes reads a symbol if it follows, and reports whether it does.
func (p *parser) takes(symbol string) bool {
	p.skip()
	if !strings.HasPrefix(p.rest, symbol) {
		return false
	}
	p.cut(len(symbol))
	return true
}

// wants reads a symbol that must follow.
func (p *parser) wants(symbol string) {
	if !p.takes(symbol) {
		p.bad = true
	}
}

// ended reports whether the text has been read to its end without an error.
func (p *parser) ended() bool {
	p.skip()
	return !p.bad && p.rest == ""
}

// skip passes over spaces.
func (p *parser) skip() {
	p.rest = strings.TrimLeft(p.rest, " \n")
}

// cut reads the next n bytes, which must be there.
func (p *parser) cut(n int) string {
	s := p.rest[:n]
	p.rest = p.rest[n:]
	return s
}
