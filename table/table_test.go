package table

import (
	"math"
	"slices"
	"strings"
	"testing"

	"ratebook/api"
)

const top = api.MaxNumber

// set builds a list of ranges from pairs of ends.
func set(ends ...int) []api.Range {
	var l []api.Range
	for i := 0; i+1 < len(ends); i += 2 {
		l = append(l, api.Range{Lo: ends[i], Hi: ends[i+1]})
	}
	return l
}

// at builds a cell that holds in the ranges with these ends.
func at(ends ...int) api.Cell {
	return api.Cell{Ranges: set(ends...)}
}

// not builds a cell that holds outside the ranges with these ends.
func not(ends ...int) api.Cell {
	return api.Cell{Not: true, Ranges: set(ends...)}
}

// rule builds a rule with an Out and cells.
func rule(out int, cells ...api.Cell) api.Rule {
	return api.Rule{Out: out, Cells: cells}
}

// make1, make2 and make3 build tables with one, two and three inputs.
func make1(policy int, rules ...api.Rule) api.Table {
	return api.Table{Name: "t", Policy: policy, Inputs: []string{"a"}, Rules: rules}
}

func make2(policy int, rules ...api.Rule) api.Table {
	return api.Table{Name: "t", Policy: policy, Inputs: []string{"a", "b"}, Rules: rules}
}

func make3(policy int, rules ...api.Rule) api.Table {
	return api.Table{Name: "t", Policy: policy, Inputs: []string{"a", "b", "c"}, Rules: rules}
}

// policies are the seven policies.
func policies() []int {
	return []int{api.Unique, api.Any, api.First, api.Least, api.Most, api.Sum, api.Count}
}

// sample is a good table with two inputs, of which the given change makes another.
func sample(change func(x *api.Table)) api.Table {
	x := make2(api.First, rule(7, at(0, 4), at()), rule(2, at(3, 9), not(3, 4)), rule(5, at(0, 1, 8, 9), at(0, 9)))
	change(&x)
	return x
}

// badTables are tables that are not good, with what is wrong with them.
func badTables() map[string]api.Table {
	changes := map[string]func(x *api.Table){
		"no name":                   func(x *api.Table) { x.Name = "" },
		"a long name":               func(x *api.Table) { x.Name = "abcdefghi" },
		"a digit in the name":       func(x *api.Table) { x.Name = "t1" },
		"a capital letter":          func(x *api.Table) { x.Name = "T" },
		"no policy":                 func(x *api.Table) { x.Policy = 0 },
		"an eighth policy":          func(x *api.Table) { x.Policy = 8 },
		"a negative policy":         func(x *api.Table) { x.Policy = -1 },
		"the greatest policy":       func(x *api.Table) { x.Policy = math.MaxInt },
		"no inputs":                 func(x *api.Table) { x.Inputs = nil },
		"no inputs and no cells":    func(x *api.Table) { x.Inputs, x.Rules = nil, []api.Rule{rule(1)} },
		"an input without a name":   func(x *api.Table) { x.Inputs[1] = "" },
		"an input with a long name": func(x *api.Table) { x.Inputs[0] = "abcdefghi" },
		"an input that is no name":  func(x *api.Table) { x.Inputs[0] = "a b" },
		"the same input twice":      func(x *api.Table) { x.Inputs[1] = "a" },
		"fewer inputs than cells":   func(x *api.Table) { x.Inputs = x.Inputs[:1] },
		"more inputs than cells":    func(x *api.Table) { x.Inputs = []string{"a", "b", "c"} },
		"no rules":                  func(x *api.Table) { x.Rules = nil },
		"too many rules":            func(x *api.Table) { x.Rules = slices.Repeat(x.Rules[:1], api.MaxRules+1) },
		"a great Out":               func(x *api.Table) { x.Rules[1].Out = top + 1 },
		"a small Out":               func(x *api.Table) { x.Rules[2].Out = -top - 1 },
		"the greatest Out":          func(x *api.Table) { x.Rules[0].Out = math.MaxInt },
		"the smallest Out":          func(x *api.Table) { x.Rules[0].Out = math.MinInt },
		"a rule without cells":      func(x *api.Table) { x.Rules[2].Cells = nil },
		"a cell too few":            func(x *api.Table) { x.Rules[0].Cells = x.Rules[0].Cells[:1] },
		"a cell too many":           func(x *api.Table) { x.Rules[1].Cells = append(x.Rules[1].Cells, at()) },
		"Not without ranges":        func(x *api.Table) { x.Rules[2].Cells[1] = not() },
		"an empty range":            func(x *api.Table) { x.Rules[2].Cells[1] = at(4, 3) },
		"an empty range with Not":   func(x *api.Table) { x.Rules[0].Cells[0] = not(4, 3) },
		"ranges that touch":         func(x *api.Table) { x.Rules[0].Cells[1] = at(1, 2, 3, 4) },
		"ranges out of order":       func(x *api.Table) { x.Rules[0].Cells[0] = at(5, 6, 1, 2) },
		"ranges that overlap":       func(x *api.Table) { x.Rules[1].Cells[0] = not(1, 5, 4, 9) },
		"a range out of bounds":     func(x *api.Table) { x.Rules[0].Cells[0] = at(0, top+1) },
		"a wild range":              func(x *api.Table) { x.Rules[0].Cells[0] = at(math.MinInt, math.MaxInt) },
		"too many ranges":           func(x *api.Table) { x.Rules[0].Cells[0] = at(0, 0, 2, 2, 4, 4, 6, 6, 8, 8) },
		"four inputs": func(x *api.Table) {
			x.Inputs = []string{"a", "b", "c", "d"}
			x.Rules = []api.Rule{rule(1, at(), at(), at(), at())}
		},
		"nothing at all": func(x *api.Table) { *x = api.Table{} },
	}
	out := map[string]api.Table{}
	for name, change := range changes {
		out[name] = sample(change)
	}
	return out
}

// P3.1

func TestNamed(t *testing.T) {
	cases := map[string]bool{
		"":                 false,
		"a":                true,
		"z":                true,
		"t":                true,
		"rate":             true,
		"abcdefgh":         true,
		"abcdefghi":        false,
		"zzzzzzzz":         true,
		"aaaaaaaaaaaaaaaa": false,
		"A":                false,
		"aB":               false,
		"Za":               false,
		"a1":               false,
		"1":                false,
		"a b":              false,
		" a":               false,
		"a ":               false,
		"a_b":              false,
		"a\x00":            false,
		"a\n":              false,
		"ä":                false,
		"aé":               false,
		"ａ":                false,
		"\xff":             false,
		"abcdefg1":         false,
		"1bcdefgh":         false,
	}
	for s, want := range cases {
		if got := Named(s); got != want {
			t.Errorf("Named(%q) = %v", s, got)
		}
	}
	if Named(strings.Repeat("a", 1000)) {
		t.Error("Named of a thousand letters")
	}
}

func TestNamedOfEachByte(t *testing.T) {
	for b := range 256 {
		want := b >= 97 && b <= 122
		for _, s := range []string{string([]byte{byte(b)}), string([]byte{'m', byte(b)}), string([]byte{byte(b), 'm'})} {
			if got := Named(s); got != want {
				t.Errorf("Named(%q) = %v", s, got)
			}
		}
	}
}

// P3.2

func TestGood(t *testing.T) {
	cases := map[string]api.Table{
		"two inputs":              sample(func(x *api.Table) {}),
		"Complete":                sample(func(x *api.Table) { x.Complete = true }),
		"the longest name":        sample(func(x *api.Table) { x.Name = "abcdefgh" }),
		"the longest input":       sample(func(x *api.Table) { x.Inputs[1] = "zzzzzzzz" }),
		"its own name as input":   sample(func(x *api.Table) { x.Inputs[0] = x.Name }),
		"inputs out of order":     sample(func(x *api.Table) { x.Inputs[0], x.Inputs[1] = "b", "a" }),
		"one input":               make1(api.Sum, rule(1, at(0, 4))),
		"three inputs":            make3(api.Most, rule(1, at(0, 4), not(0, 4), at())),
		"MaxRules rules":          make1(api.Sum, slices.Repeat([]api.Rule{rule(1, at())}, api.MaxRules)...),
		"MaxRanges ranges":        make1(api.Sum, rule(1, at(0, 0, 2, 2, 4, 4, 6, 6))),
		"MaxRanges ranges, Not":   make1(api.Sum, rule(1, not(0, 0, 2, 2, 4, 4, 6, 6))),
		"the bounds":              make1(api.Sum, rule(top, at(-top, top)), rule(-top, not(-top, -top, top, top))),
		"an empty list":           make1(api.Sum, rule(0, api.Cell{Ranges: []api.Range{}})),
		"a cell that never holds": make1(api.Sum, rule(0, not(-top, top))),
	}
	for name, x := range cases {
		if !Good(x) {
			t.Errorf("%s: Good(%+v) = false", name, x)
		}
	}
	for _, p := range policies() {
		if x := sample(func(x *api.Table) { x.Policy = p }); !Good(x) {
			t.Errorf("Good(%+v) = false", x)
		}
	}
	for name, x := range badTables() {
		if Good(x) {
			t.Errorf("%s: Good(%+v) = true", name, x)
		}
	}
}

// P3.3

func TestHolds(t *testing.T) {
	cases := []struct {
		name    string
		c       api.Cell
		in, out []int
	}{
		{"no ranges", at(), []int{0, -5, top + 1, math.MinInt, math.MaxInt}, nil},
		{"no ranges, but a list", api.Cell{Ranges: []api.Range{}}, []int{0, 7}, nil},
		{"Not without ranges", not(), []int{0, -5, math.MinInt, math.MaxInt}, nil},
		{"one range", at(3, 5), []int{3, 4, 5}, []int{2, 6, -4, math.MinInt, math.MaxInt}},
		{"not in one range", not(3, 5), []int{2, 6, -4, math.MinInt, math.MaxInt}, []int{3, 4, 5}},
		{"two ranges", at(0, 0, 3, 5), []int{0, 3, 4, 5}, []int{-1, 1, 2, 6}},
		{"not in two ranges", not(0, 0, 3, 5), []int{-1, 1, 2, 6}, []int{0, 3, 4, 5}},
		{"more than MaxRanges", at(0, 0, 2, 2, 4, 4, 6, 6, 8, 8), []int{0, 8}, []int{1, 9}},
		{"out of order, overlapping", at(5, 9, 1, 6), []int{1, 4, 5, 9}, []int{0, 10}},
		{"an empty range", at(5, 3), nil, []int{3, 4, 5, 0}},
		{"not in an empty range", not(5, 3), []int{3, 4, 5, 0}, nil},
		{"a wild range", at(math.MinInt, math.MaxInt), []int{0, math.MinInt, math.MaxInt}, nil},
		{"not in a wild range", not(math.MinInt, math.MaxInt), nil, []int{0, math.MinInt, math.MaxInt}},
		{"beyond the bounds", at(top, top+5), []int{top, top + 5}, []int{top - 1, top + 6}},
	}
	for _, c := range cases {
		for _, n := range c.in {
			if !Holds(c.c, n) {
				t.Errorf("%s: Holds(%v, %d) = false", c.name, c.c, n)
			}
		}
		for _, n := range c.out {
			if Holds(c.c, n) {
				t.Errorf("%s: Holds(%v, %d) = true", c.name, c.c, n)
			}
		}
	}
}

func TestMatches(t *testing.T) {
	two := sample(func(x *api.Table) {})
	mixed := api.Table{Rules: []api.Rule{rule(1), rule(2, at()), rule(3, at(), at(5, 6)), rule(4, not()), rule(5)}}
	cases := []struct {
		name string
		x    api.Table
		in   []int
		want []int
	}{
		{"one rule", two, []int{2, 2}, []int{0}},
		{"two rules", two, []int{4, 5}, []int{0, 1}},
		{"two other rules", two, []int{0, 0}, []int{0, 2}},
		{"the first cell alone holds", two, []int{7, 3}, nil},
		{"the second cell alone holds", two, []int{-1, 0}, nil},
		{"no number", two, nil, nil},
		{"a number too few", two, []int{4}, nil},
		{"a number too many", two, []int{4, 5, 0}, nil},
		{"wild numbers", two, []int{3, math.MaxInt}, []int{0, 1}},
		{"rules of several lengths, none", mixed, nil, []int{0, 4}},
		{"rules of several lengths, one", mixed, []int{9}, []int{1, 3}},
		{"rules of several lengths, two", mixed, []int{9, 5}, []int{2}},
		{"rules of several lengths, three", mixed, []int{9, 5, 5}, nil},
		{"no rules", api.Table{}, []int{1}, nil},
		{"no rules, no numbers", api.Table{}, nil, nil},
		{"a table that is not good", api.Table{Rules: []api.Rule{rule(math.MaxInt, at(9, 1, 5, 4, 4, 6))}}, []int{5}, []int{0}},
		{"all rules", make1(9, slices.Repeat([]api.Rule{rule(1, at())}, 9)...), []int{5}, []int{0, 1, 2, 3, 4, 5, 6, 7, 8}},
	}
	for _, c := range cases {
		if got := Matches(c.x, c.in); !slices.Equal(got, c.want) {
			t.Errorf("%s: Matches(%v, %v) = %v", c.name, c.x, c.in, got)
		}
	}
}

// P3.4

// answer is what Says returns.
type answer struct {
	n    int
	ok   bool
	code api.Errno
}

func says(x api.Table, in []int) answer {
	n, ok, code := Says(x, in)
	return answer{n, ok, code}
}

func TestSays(t *testing.T) {
	two := answer{0, false, api.ErrTwo}
	none := answer{0, false, api.OK}
	n := func(n int) answer { return answer{n, true, api.OK} }
	rules := []api.Rule{
		rule(3, at(0, 0, 10, 19)), rule(-4, at(10, 19, 40, 49)), rule(3, at(10, 14, 20, 29)), rule(3, at(20, 29)),
		rule(8, at(15, 19)), rule(0, at(30, 30)),
	}
	cases := []struct {
		name string
		in   int
		want [7]answer // by policy
	}{
		{"none", 9, [7]answer{none, none, none, none, none, none, n(0)}},
		{"one", 0, [7]answer{n(3), n(3), n(3), n(3), n(3), n(3), n(1)}},
		{"one that gives 0", 30, [7]answer{n(0), n(0), n(0), n(0), n(0), n(0), n(1)}},
		{"one that gives a negative number", 45, [7]answer{n(-4), n(-4), n(-4), n(-4), n(-4), n(-4), n(1)}},
		{"two that give the same", 25, [7]answer{two, n(3), n(3), n(3), n(3), n(6), n(2)}},
		{"the last of three gives the same as the first", 12, [7]answer{two, two, n(3), n(-4), n(3), n(2), n(3)}},
		{"three that give different numbers", 17, [7]answer{two, two, n(3), n(-4), n(8), n(7), n(3)}},
	}
	for _, c := range cases {
		for i, p := range policies() {
			if got := says(make1(p, rules...), []int{c.in}); got != c.want[i] {
				t.Errorf("%s, policy %d: %v", c.name, p, got)
			}
		}
	}
}

func TestSaysOrder(t *testing.T) {
	x := make1(api.First, rule(5, at(3, 3)), rule(9, at(0, 9)), rule(1, at(0, 5)))
	for in, want := range map[int]int{3: 5, 4: 9, 9: 9} {
		if got := says(x, []int{in}); got != (answer{want, true, api.OK}) {
			t.Errorf("Says(%v, %d) = %v", x, in, got)
		}
	}
	x.Policy = api.Any
	x.Rules = []api.Rule{rule(2, at()), rule(2, at()), rule(3, at(7, 7))}
	for in, want := range map[int]answer{6: {2, true, api.OK}, 7: {0, false, api.ErrTwo}} {
		if got := says(x, []int{in}); got != want {
			t.Errorf("Says(%v, %d) = %v", x, in, got)
		}
	}
}

func TestSaysOfTheGreatestSums(t *testing.T) {
	for _, out := range []int{top, -top} {
		x := make1(api.Sum, slices.Repeat([]api.Rule{rule(out, at())}, api.MaxRules)...)
		if got := says(x, []int{math.MinInt}); got != (answer{api.MaxRules * out, true, api.OK}) {
			t.Errorf("Says(%v) = %v", x, got)
		}
	}
}

func TestSaysOfBadArguments(t *testing.T) {
	form := answer{0, false, api.ErrForm}
	for name, x := range badTables() {
		for _, in := range [][]int{nil, {0}, {4, 5}, {0, 0, 0}, {0, 0, 0, 0}} {
			if got := says(x, in); got != form {
				t.Errorf("%s: Says(%v, %v) = %v", name, x, in, got)
			}
		}
	}
	for _, p := range policies() {
		x := sample(func(x *api.Table) { x.Policy = p })
		for _, in := range [][]int{nil, {}, {4}, {4, 5, 0}} {
			if got := says(x, in); got != form {
				t.Errorf("Says(%v, %v) = %v", x, in, got)
			}
		}
	}
}

// P3.5

func TestSpan(t *testing.T) {
	outs := func(policy int, l ...int) api.Table {
		x := make1(policy)
		for _, n := range l {
			x.Rules = append(x.Rules, rule(n, at(n, n)))
		}
		return x
	}
	cases := []struct {
		outs             []int
		count, sum, rest api.Range
	}{
		{[]int{7, -2, 5}, api.Range{Hi: 3}, api.Range{Lo: -2, Hi: 12}, api.Range{Lo: -2, Hi: 7}},
		{[]int{4}, api.Range{Hi: 1}, api.Range{Hi: 4}, api.Range{Lo: 4, Hi: 4}},
		{[]int{-4}, api.Range{Hi: 1}, api.Range{Lo: -4}, api.Range{Lo: -4, Hi: -4}},
		{[]int{0}, api.Range{Hi: 1}, api.Range{}, api.Range{}},
		{[]int{3, 9, 6}, api.Range{Hi: 3}, api.Range{Hi: 18}, api.Range{Lo: 3, Hi: 9}},
		{[]int{-3, -9, -6, -9}, api.Range{Hi: 4}, api.Range{Lo: -27}, api.Range{Lo: -9, Hi: -3}},
		{[]int{1, 2, 3, -1, -2}, api.Range{Hi: 5}, api.Range{Lo: -3, Hi: 6}, api.Range{Lo: -2, Hi: 3}},
		{[]int{top, top, top, -top, -top, -top}, api.Range{Hi: 6}, api.Range{Lo: -3 * top, Hi: 3 * top}, api.Range{Lo: -top, Hi: top}},
		{[]int{top, top, top, top, top, top}, api.Range{Hi: 6}, api.Range{Hi: 6 * top}, api.Range{Lo: top, Hi: top}},
	}
	for _, c := range cases {
		for _, p := range policies() {
			want := c.rest
			switch p {
			case api.Count:
				want = c.count
			case api.Sum:
				want = c.sum
			}
			if got := Span(outs(p, c.outs...)); got != want {
				t.Errorf("policy %d: Span of the Outs %v = %v", p, c.outs, got)
			}
		}
	}
}

// What the document does not specify is a choice of this package: see Span.
func TestSpanOfBadTables(t *testing.T) {
	for name, x := range badTables() {
		if got := Span(x); got != (api.Range{}) {
			t.Errorf("%s: Span(%v) = %v", name, x, got)
		}
	}
}
