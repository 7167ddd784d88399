package text

import (
	"reflect"
	"regexp"
	"slices"
	"strconv"
	"strings"
	"testing"

	"ratebook/api"
	"ratebook/table"
)

// P4.3

// result is what Parse returns.
type result struct {
	d       api.Domain
	x       api.Table
	isTable bool
	code    api.Errno
}

func parse(s string) result {
	d, x, isTable, code := Parse(s)
	return result{d, x, isTable, code}
}

// ofTable and ofDomain are the results for a table and a domain.
func ofTable(x api.Table) result   { return result{x: x, isTable: true} }
func ofDomain(d api.Domain) result { return result{d: d} }

// plain makes empty lists nil, because they are interchangeable.
func plain(r result) result {
	r.x.Inputs = slices.Concat(r.x.Inputs)
	r.x.Rules = slices.Concat(r.x.Rules)
	for i := range r.x.Rules {
		cells := slices.Concat(r.x.Rules[i].Cells)
		for k := range cells {
			cells[k].Ranges = slices.Concat(cells[k].Ranges)
		}
		r.x.Rules[i].Cells = cells
	}
	return r
}

// check compares what Parse returns for a text with what it must return.
func check(t *testing.T, s string, want result) {
	t.Helper()
	if got := parse(s); !reflect.DeepEqual(plain(got), plain(want)) {
		t.Errorf("Parse(%q) = %+v, not %+v", s, got, want)
	}
}

func TestParseDomains(t *testing.T) {
	want := ofDomain(api.Domain{Name: "a", Lo: -5, Hi: 9})
	for _, s := range []string{
		"domain a -5..9\n", "domain a -5..9", " domain a -5..9 ", "domain a-5..9", "domain\na\n-5\n..\n9\n",
		"  \n \n domain   a  \n-5  ..  9 \n\n", "\ndomain a-5.. 9", "domain a -5 ..9",
	} {
		check(t, s, want)
	}
	check(t, "domain a 0..9", ofDomain(api.Domain{Name: "a", Hi: 9}))
	check(t, "domain a0..9", ofDomain(api.Domain{Name: "a", Hi: 9}))
	check(t, "domain abcdefgh-1000000..1000000", ofDomain(api.Domain{Name: "abcdefgh", Lo: -top, Hi: top}))
	check(t, "domain domain 1..2", ofDomain(api.Domain{Name: "domain", Lo: 1, Hi: 2}))
	check(t, "domain table 1..2", ofDomain(api.Domain{Name: "table", Lo: 1, Hi: 2}))
	check(t, "domain a 5..5", ofDomain(api.Domain{Name: "a", Lo: 5, Hi: 5}))
	check(t, "domain a -5..-5", ofDomain(api.Domain{Name: "a", Lo: -5, Hi: -5}))
	check(t, "domain a 0..0", ofDomain(api.Domain{Name: "a"}))
}

func TestParseTables(t *testing.T) {
	want := ofTable(api.Table{Name: "t", Policy: api.Unique, Complete: true, Inputs: []string{"a", "b"}, Rules: []api.Rule{
		rule(7, at(0, 4), at()), rule(-1, not(3, 3, 5, 9), at(-2, -2)),
	}})
	for _, s := range []string{
		"table t unique complete (a,b) {\n  0..4,* => 7;\n  not 3|5..9,-2 => -1;\n}\n",
		"table t unique complete(a,b){0..4,*=>7;not3|5..9,-2=>-1;}",
		"\n table\n\nt unique\ncomplete \n ( a , b ) \n { 0 .. 4 , * => 7 ; not\n3 | 5\n..\n9 , -2 => -1 ; } \n",
	} {
		check(t, s, want)
	}
	check(t, "table t most (a) { * => 0; }", ofTable(api.Table{Name: "t", Policy: api.Most, Inputs: []string{"a"},
		Rules: []api.Rule{rule(0, at())}}))
	check(t, "table t first(a){-1000000|1000000=>-1000000;*=>1000000;}", ofTable(single(rule(-top, at(-top, -top, top, top)), rule(top, at()))))
	check(t, "table t first(a){-1000000..1000000=>1;}", ofTable(single(rule(1, at(-top, top)))))
	check(t, "table t first(a){not-9..-5|0|2..3|10=>1;}", ofTable(single(rule(1, not(-9, -5, 0, 0, 2, 3, 10, 10)))))
	check(t, "table t first(a){"+strings.Repeat("5=>6;", 6)+"}", ofTable(single(slices.Repeat([]api.Rule{rule(6, at(5, 5))}, 6)...)))
}

// The words of the form may also be names.
func TestParseNamesLikeWords(t *testing.T) {
	words := []string{"table", "domain", "complete", "not", "unique", "any", "first", "least", "most", "sum", "count"}
	for i, w := range words {
		for _, complete := range []bool{false, true} {
			inputs := []string{w, words[(i+1)%len(words)], words[(i+2)%len(words)]}
			x := api.Table{Name: w, Policy: api.First, Complete: complete, Inputs: inputs, Rules: []api.Rule{rule(1, at(), at(), at(1, 1))}}
			s, code := Table(x)
			if code != api.OK {
				t.Errorf("%v has no text: %d", x, code)
			}
			check(t, s, ofTable(x))
		}
	}
}

func TestParsePolicies(t *testing.T) {
	for word, policy := range map[string]int{
		"unique": api.Unique, "any": api.Any, "first": api.First, "least": api.Least, "most": api.Most, "sum": api.Sum, "count": api.Count,
	} {
		x := single(rule(1, at(0, 9)))
		x.Policy = policy
		check(t, "table t "+word+" (a) { 0..9 => 1; }", ofTable(x))
		x.Complete = true
		check(t, "table t "+word+" complete (a) { 0..9 => 1; }", ofTable(x))
		for _, s := range []string{word[1:], word[:len(word)-1], word + "s", strings.ToUpper(word), "", word + word, word + " " + word} {
			check(t, "table t "+s+" (a) { 0..9 => 1; }", result{code: api.ErrForm})
		}
	}
}

// wrong are texts that describe no good domain or table.
func wrong() []string {
	l := []string{
		"", " ", "\n", "#", "x", "a", "7", "domain", "table", "domains a 0..9", "Domain a 0..9", "DOMAIN a 0..9", "tables t first (a) { * => 1; }",
		"domaina 0..9", "domain a", "domain a 0", "domain a 0..", "domain a ..9", "domain a 0.9", "domain a 0...9", "domain a 0. .9",
		"domain a 0 9", "domain a 0-9", "domain 0..9", "domain a b 0..9", "domain a, 0..9", "domain a 0..9;", "domain a 0..9 x",
		"domain a 0..9 0..9", "domain a 0..9..10", "domain a 0..9|11", "domain a 9..1", "domain a -1..-2", "domain a 1..-1",
		"domain a 01..2", "domain a 0..02", "domain a 00..2", "domain a -0..2", "domain a -01..2", "domain a 0..-0", "domain a +1..2",
		"domain a - 5..9", "domain a --5..9", "domain a -..9", "domain a 0..-", "domain a 1 0..20", "domain a 0x1..2", "domain a 1_0..20",
		"domain a 1e1..20", "domain a 0..1000001", "domain a -1000001..0", "domain a 0..9223372036854775807", "domain a 0..9223372036854775808",
		"domain a -9223372036854775808..0", "domain a -9223372036854775809..0", "domain a 0..18446744073709551616",
		"domain a 0..18446744073709551625", "domain a 0.." + strings.Repeat("9", 1500), "domain a 0.." + strings.Repeat("0", 1500) + "9",
		"domain A 1..2", "domain aA 1..2", "domain abcdefghi 1..2", "domain a1 1..2", "domain ä 1..2", "domain a\t1..2", "domain a\r\n1..2",
		"domain\ta 1..2", "\tdomain a 1..2", "domain a 1..2\t", "domain a 1..2\x00", "\x00domain a 1..2", "domain\u00a0a 1..2", "\ufeffdomain a 1..2",
		"domain a ١..٢", "domain a * 0..9", "domain (a) 0..9", "domain a 0..9\ndomain b 0..9", "domain a first (a) { * => 1; }", "domain not 0",
		"table t 0..9", "table t first (a) { * => 1; } x", "table t first (a) { * => 1; };", "table t first (a) { * => 1; } }",
		"table t first (a) { * => 1; } table t first (a) { * => 1; }", "table t first (a) { * => 1; } { * => 1; }",
		"tablet first (a) { * => 1; }", "table tfirst (a) { * => 1; }", "table first (a) { * => 1; }", "table t (a) { * => 1; }",
		"table t complete (a) { * => 1; }", "table t complete first (a) { * => 1; }", "table t firstcomplete (a) { * => 1; }",
		"table t first complete complete (a) { * => 1; }", "table t first completed (a) { * => 1; }", "table t first not (a) { * => 1; }",
		"table t first complet (a) { * => 1; }", "table t some (a) { * => 1; }", "table t 3 (a) { * => 1; }", "table T first (a) { * => 1; }",
		"table t u first (a) { * => 1; }", "table abcdefghi first (a) { * => 1; }", "table t1 first (a) { * => 1; }",
		"table t first { * => 1; }", "table t first a { * => 1; }", "table t first (a { * => 1; }", "table t first a) { * => 1; }",
		"table t first () { * => 1; }", "table t first () { => 1; }", "table t first (,) { *,* => 1; }", "table t first (a,) { *,* => 1; }", "table t first (a,) { * => 1; }",
		"table t first (,a) { *,* => 1; }", "table t first (a b) { *,* => 1; }", "table t first (a;b) { *,* => 1; }", "table t first (a,a) { *,* => 1; }",
		"table t first (a,b,c,d) { *,*,*,* => 1; }", "table t first (A) { * => 1; }", "table t first (abcdefghi) { * => 1; }",
		"table t first (1) { * => 1; }", "table t first [a] { * => 1; }", "table t first (a)(b) { *,* => 1; }",
		"table t first (a) * => 1;", "table t first (a)", "table t first (a) {", "table t first (a) }", "table t first (a) { }", "table t first (a) {}",
		"table t first (a) { ; }", "table t first (a) { * => 1; ; }", "table t first (a) { * => 1;", "table t first (a) { * => 1; {",
		"table t first (a,b) { * => 1; }", "table t first (a) { *,* => 1; }", "table t first (a,b) { *,* => 1; * => 1; }",
		"table t first (a,b) { ** => 1; }", "table t first (a,b) { *;* => 1; }",
		"table t first (a) {" + strings.Repeat(" * => 1;", 7) + " }",
	}
	for _, cell := range []string{
		"", "not", "not *", "not not 1", "nt 1", "nots 1", "not1not", "Not 1", "NOT 1", "a", "1 not", "* *", "**", "*|*", "*|1", "1|*", "*1", "1*",
		"1|", "|1", "1||3", "|", "1,", ",1", "1|not 3", "1;3", "1 3", "1..", "..1", "1..2..3", "1...3", "1.3", "1. .3", "1..3 5", "1..*", "not 1..",
		"1..1", "3..1", "0..0", "-1..-1", "-1..-3", "not 4..4", "1..2|3..3", "0..-1", "1|2", "1..2|3", "1..2|3..4", "5|1", "5..6|1..2", "1..5|3..9",
		"1|1", "1..3|3..5", "not 1|2", "0|2|4|6|8", "not 0|2|4|6|8", "01", "00", "-0", "-01", "+1", "- 1", "--1", "-", "1-", "1-3", "0..01", "-0..3",
		"1000001", "-1000001", "0..1000001", "-1000001..0", "9223372036854775808", "-9223372036854775809", "0..18446744073709551617", "not 99999999999999999999",
		"(1)", "<1", "=1", "!1", "1.0", "1e3", "0x1", "1_0", "1\t", "\u00a01",
	} {
		l = append(l, "table t first (a) { "+cell+" => 1; }", "table t first (a,b) { *,"+cell+" => 1; }", "table t first (a) { 5 => 1; "+cell+" => 1; }")
	}
	for _, end := range []string{
		"", ";", "=>", "=>;", "=> ;", "=> 1", "=> 1,", "=> 1:", "= > 1;", "= 1;", "> 1;", "-> 1;", "==> 1;", "=>> 1;", ">= 1;", "1;", "=> *;", "=> not 1;", "=> a;",
		"=> 1..2;", "=> 1|3;", "=> 1,2;", "=> 1 2;", "=> 01;", "=> -0;", "=> 00;", "=> - 1;", "=> --1;", "=> +1;", "=> -;", "=> 1000001;", "=> -1000001;",
		"=> 9223372036854775808;", "=> 18446744073709551616;", "=> -18446744073709551617;", "=> 1;;", "=> => 1;", "=> 1 => 1;", "=> 1; x", "=> 1\t;",
	} {
		l = append(l, "table t first (a) { * "+end+" }")
	}
	return l
}

func TestParseWrongTexts(t *testing.T) {
	for _, s := range wrong() {
		check(t, s, result{code: api.ErrForm})
	}
}

func TestParseLongTexts(t *testing.T) {
	good, _ := Table(longest())
	for s, want := range map[string]result{
		good:                                ofTable(longest()),
		"domain a 0..9":                     ofDomain(api.Domain{Name: "a", Hi: 9}),
		"table t first (a) { 1 => 2; }":     ofTable(single(rule(2, at(1, 1)))),
		"domain a 9..0":                     {code: api.ErrForm},
		"":                                  {code: api.ErrForm},
		"table t first (a) { 1 => 2; } end": {code: api.ErrForm},
	} {
		room := api.MaxSource - len(s)
		for _, space := range []string{" ", "\n"} {
			check(t, s+strings.Repeat(space, room), want)
			check(t, strings.Repeat(space, room)+s, want)
			check(t, strings.Repeat(space, room/2)+s+strings.Repeat(space, room-room/2), want)
			check(t, s+strings.Repeat(space, room+1), result{code: api.ErrLong})
			check(t, strings.Repeat(space, room+1)+s, result{code: api.ErrLong})
			check(t, strings.Repeat(space, room+5000)+s, result{code: api.ErrLong})
		}
	}
	for _, s := range []string{"x", "\x00", "\xff", "domain ", "table ", "1|", "(", "{", "*", "-", "9"} {
		long := strings.Repeat(s, api.MaxSource)
		check(t, long[:api.MaxSource], result{code: api.ErrForm})
		check(t, long+"x", result{code: api.ErrLong})
	}
}

// Long lists are rejected in the end, not only at the first element too many.
func TestParseLongLists(t *testing.T) {
	for _, s := range []string{
		"table t first (" + strings.Repeat("a,", 900) + "a) { * => 1; }",
		"table t first (a) { " + strings.Repeat("*,", 900) + "* => 1; }",
		"table t first (a) { " + strings.Repeat("1|", 900) + "1 => 1; }",
		"table t first (a) { " + strings.Repeat("*=>1;", 380) + " }",
		"table t first (a) { " + strings.Repeat("*=>1;", 380),
		"table t first (a" + strings.Repeat(",", 1900),
		"table t first (a) {" + strings.Repeat(",", 1900),
		"table t first (a) {" + strings.Repeat("|", 1900),
		"table t first (a) {" + strings.Repeat(";", 1900),
	} {
		check(t, s, result{code: api.ErrForm})
	}
}

// dice makes numbers that look arbitrary and are the same in every run.
type dice uint32

func (d *dice) roll(n int) int {
	*d = *d*1664525 + 1013904223
	return int(*d>>8) % n
}

// number returns a number within bounds, most often a small one.
func (d *dice) number() int {
	switch d.roll(8) {
	case 0:
		return top - d.roll(3)
	case 1:
		return d.roll(3) - top
	}
	return d.roll(41) - 20
}

// cell returns a cell that a good table may have.
func (d *dice) cell() api.Cell {
	var c api.Cell
	next := d.roll(12) - 10
	for range d.roll(api.MaxRanges + 1) {
		r := api.Range{Lo: next, Hi: next + d.roll(2)*d.roll(9)}
		c.Ranges = append(c.Ranges, r)
		next = r.Hi + 2 + d.roll(5)
	}
	c.Not = len(c.Ranges) > 0 && d.roll(3) == 0
	return c
}

// table returns a good table.
func (d *dice) table() api.Table {
	names := []string{"a", "b", "rate", "complete", "not", "table", "abcdefgh"}
	first := d.roll(len(names) - 2)
	x := api.Table{Name: names[d.roll(len(names))], Policy: 1 + d.roll(7), Complete: d.roll(2) == 0}
	x.Inputs = names[first : first+1+d.roll(min(api.MaxInputs, len(names)-first))]
	for range 1 + d.roll(api.MaxRules) {
		r := api.Rule{Out: d.number()}
		for range x.Inputs {
			r.Cells = append(r.Cells, d.cell())
		}
		x.Rules = append(x.Rules, r)
	}
	return x
}

// domain returns a good domain.
func (d *dice) domain() api.Domain {
	lo, hi := d.number(), d.number()
	return api.Domain{Name: []string{"a", "domain", "table", "abcdefgh"}[d.roll(4)], Lo: min(lo, hi), Hi: max(lo, hi)}
}

// text returns the text of a good table or domain, and what it describes.
func (d *dice) text(t *testing.T) (string, result) {
	t.Helper()
	x, dom := d.table(), d.domain()
	s, code := Table(x)
	want := ofTable(x)
	if d.roll(4) == 0 {
		s, code = Domain(dom)
		want = ofDomain(dom)
	}
	if code != api.OK {
		t.Fatalf("no text: %v, %v, %d", x, dom, code)
	}
	return s, want
}

// pieces matches the words, numbers and symbols of a text.
var pieces = regexp.MustCompile(`[a-z]+|-?[0-9]+|\.\.|=>|[(){},;|*]`)

// spaced returns a text with other spaces between its pieces.
func (d *dice) spaced(s string) string {
	spaces := []string{"", "", "", " ", "\n", "  ", " \n", "\n\n "}
	letters := regexp.MustCompile(`^[a-z]`)
	out := spaces[d.roll(len(spaces))]
	last := ""
	for _, piece := range pieces.FindAllString(s, -1) {
		// Two words without a space between them would be one.
		if letters.MatchString(last) && letters.MatchString(piece) {
			out += spaces[3+d.roll(len(spaces)-3)]
		}
		out += piece + spaces[d.roll(len(spaces))]
		last = piece
	}
	return out
}

func TestParseWhatIsPrinted(t *testing.T) {
	var d dice
	for range 5000 {
		s, want := d.text(t)
		check(t, s, want)
		if other := d.spaced(s); len(other) <= api.MaxSource {
			check(t, other, want)
		}
	}
}

// changed returns a text of which one place is different.
func (d *dice) changed(s string) string {
	i := d.roll(len(s))
	const bytes = "atnot019--..,,||;;**(){}=> \n \t#A\x00\xff"
	k := d.roll(len(bytes))
	switch d.roll(5) {
	case 0:
		return s[:i] + s[i+1:]
	case 1:
		return s[:i] + bytes[k:k+1] + s[i+1:]
	case 2:
		return s[:i] + bytes[k:k+1] + s[i:]
	case 3:
		return s[:i] + s[i:i+1] + s[i:]
	}
	l := pieces.FindAllStringIndex(s, -1)
	if len(l) == 0 {
		return ""
	}
	from := l[d.roll(len(l))]
	to := l[d.roll(len(l))]
	return s[:to[0]] + s[from[0]:from[1]] + s[to[1]:]
}

const (
	gap    = `[ \n]*`
	apart  = `[ \n]+`
	digits = `(?:0|-?[1-9][0-9]*)`
	aRange = digits + `(?:` + gap + `\.\.` + gap + digits + `)?`
	aCell  = `(?:\*|(?:not` + gap + `)?` + aRange + `(?:` + gap + `\|` + gap + aRange + `)*)`
	aRule  = aCell + `(?:` + gap + `,` + gap + aCell + `)*` + gap + `=>` + gap + digits + gap + `;` + gap
)

var domainForm = regexp.MustCompile(`\A` + gap + `domain` + apart + `([a-z]+)` + gap + `(` + digits + `)` + gap + `\.\.` + gap + `(` + digits + `)` + gap + `\z`)

var tableForm = regexp.MustCompile(`\A` + gap + `table` + apart + `([a-z]+)` + apart + `(unique|any|first|least|most|sum|count)(` + apart + `complete)?` + gap +
	`\(` + gap + `([a-z]+(?:` + gap + `,` + gap + `[a-z]+)*)` + gap + `\)` + gap + `\{` + gap + `((?:` + aRule + `)*)` + `\}` + gap + `\z`)

// whole returns a number, which is out of bounds if it is too long.
func whole(s string) int {
	n, err := strconv.Atoi(s)
	if err != nil {
		return top + 1
	}
	return n
}

// cellOf returns the cell with a text without spaces, and whether in all ranges
// with two numbers the second one is greater.
func cellOf(s string) (api.Cell, bool) {
	if s == "*" {
		return api.Cell{}, true
	}
	ranges, negated := strings.CutPrefix(s, "not")
	c := api.Cell{Not: negated}
	ok := true
	for _, one := range strings.Split(ranges, "|") {
		lo, hi, two := strings.Cut(one, "..")
		r := api.Range{Lo: whole(lo), Hi: whole(lo)}
		if two {
			r.Hi = whole(hi)
			ok = ok && r.Hi > r.Lo
		}
		c.Ranges = append(c.Ranges, r)
	}
	return c, ok
}

// expect is Parse, by another way: regular expressions for the form.
func expect(s string) result {
	bare := strings.NewReplacer(" ", "", "\n", "").Replace
	wrong := result{code: api.ErrForm}
	if m := domainForm.FindStringSubmatch(s); m != nil {
		d := api.Domain{Name: m[1], Lo: whole(m[2]), Hi: whole(m[3])}
		if !GoodDomain(d) {
			return wrong
		}
		return ofDomain(d)
	}
	m := tableForm.FindStringSubmatch(s)
	if m == nil {
		return wrong
	}
	words := []string{"", "unique", "any", "first", "least", "most", "sum", "count"}
	x := api.Table{Name: m[1], Policy: slices.Index(words, m[2]), Complete: m[3] != "", Inputs: strings.Split(bare(m[4]), ",")}
	for one := range strings.SplitSeq(strings.TrimSuffix(bare(m[5]), ";"), ";") {
		cells, out, _ := strings.Cut(one, "=>")
		r := api.Rule{Out: whole(out)}
		for cell := range strings.SplitSeq(cells, ",") {
			c, ok := cellOf(cell)
			if !ok {
				return wrong
			}
			r.Cells = append(r.Cells, c)
		}
		x.Rules = append(x.Rules, r)
	}
	if !table.Good(x) {
		return wrong
	}
	return ofTable(x)
}

func TestParseChangedTexts(t *testing.T) {
	var d dice
	good := 0
	for range 20000 {
		s, _ := d.text(t)
		if d.roll(2) == 0 {
			s = d.spaced(s)
		}
		for range 1 + d.roll(3) {
			if s != "" {
				s = d.changed(s)
			}
		}
		if len(s) > api.MaxSource {
			continue
		}
		want := expect(s)
		check(t, s, want)
		if want.code == api.OK {
			good++
		}
	}
	// The comparison means little unless there are enough texts of both kinds.
	if good < 2000 || good > 18000 {
		t.Errorf("%d of the texts are good", good)
	}
}

// expect itself must reject what is listed as wrong.
func TestParseWrongTextsByAnotherWay(t *testing.T) {
	for _, s := range wrong() {
		if got := expect(s); got.code != api.ErrForm {
			t.Errorf("%q: %+v", s, got)
		}
	}
}

func TestParsePrefixes(t *testing.T) {
	s, want := "table t unique complete (a,b) {\n  0..4,* => 7;\n  not 3|5..9,-2 => -1;\n}\n", result{code: api.ErrForm}
	for i := range len(s) - 2 {
		check(t, s[:i], want)
		check(t, s[i+1:], want)
	}
	s = "domain a -50..90\n"
	for i := range len(s) {
		check(t, s[i+1:], want)
	}
	for i := range strings.Index(s, "9") + 1 {
		check(t, s[:i], want)
	}
}

func TestParseResultIsNew(t *testing.T) {
	s := "table t first (a,b) { 1|3,5 => 7; 1|3,5 => 7; }"
	first, second := parse(s), parse(s)
	first.x.Inputs[0] = "z"
	first.x.Rules[0].Cells[0].Ranges[0].Lo = -1
	first.x.Rules[0].Cells[0].Ranges = append(first.x.Rules[0].Cells[0].Ranges, set(9, 9)...)
	if !reflect.DeepEqual(first.x.Rules[1], second.x.Rules[1]) || !reflect.DeepEqual(first.x.Rules[0].Cells[1], second.x.Rules[0].Cells[1]) {
		t.Errorf("the rules share memory: %v", first.x)
	}
	check(t, s, second)
}
