package text

import (
	"math"
	"reflect"
	"slices"
	"strings"
	"testing"

	"ratebook/api"
	"ratebook/table"
)

const top = api.MaxNumber

// set builds a list of ranges from pairs of ends.
func set(ends ...int) []api.Range {
	var l []api.Range
	for i := 0; i+1 < len(ends); i += 2 {
		l = append(l, api.Range{Lo: ends[i], Hi: ends[i+1]})
	}
	return l
}

// at builds a cell that holds in the ranges with these ends.
func at(ends ...int) api.Cell {
	return api.Cell{Ranges: set(ends...)}
}

// not builds a cell that holds outside the ranges with these ends.
func not(ends ...int) api.Cell {
	return api.Cell{Not: true, Ranges: set(ends...)}
}

// rule builds a rule with an Out and cells.
func rule(out int, cells ...api.Cell) api.Rule {
	return api.Rule{Out: out, Cells: cells}
}

// single builds a table with one input.
func single(rules ...api.Rule) api.Table {
	return api.Table{Name: "t", Policy: api.First, Inputs: []string{"a"}, Rules: rules}
}

// sample is a good table with two inputs, of which the given change makes another.
func sample(change func(x *api.Table)) api.Table {
	x := api.Table{Name: "rate", Policy: api.First, Inputs: []string{"a", "b"}, Rules: []api.Rule{
		rule(7, at(0, 4), at()), rule(-2, at(3, 3), not(3, 4)), rule(0, at(0, 1, 8, 9), at(-5, -5)),
	}}
	change(&x)
	return x
}

// longest is a good table with the longest text that a table can have.
func longest() api.Table {
	x := api.Table{Name: "abcdefgh", Policy: api.Unique, Complete: true, Inputs: []string{"aaaaaaaa", "bbbbbbbb", "cccccccc"}}
	cell := not(-top, -999999, -999997, -999996, -999994, -999993, -999991, -999990)
	for range api.MaxRules {
		x.Rules = append(x.Rules, rule(-top, cell, cell, cell))
	}
	return x
}

// P4.1

func TestTable(t *testing.T) {
	cases := []struct {
		name string
		x    api.Table
		want string
	}{
		{"one rule", single(rule(1, at(0, 9))), "table t first (a) {\n  0..9 => 1;\n}\n"},
		{"two inputs and three rules", sample(func(x *api.Table) {}),
			"table rate first (a,b) {\n  0..4,* => 7;\n  3,not 3..4 => -2;\n  0..1|8..9,-5 => 0;\n}\n"},
		{"complete", sample(func(x *api.Table) { x.Complete = true }),
			"table rate first complete (a,b) {\n  0..4,* => 7;\n  3,not 3..4 => -2;\n  0..1|8..9,-5 => 0;\n}\n"},
		{"three inputs", api.Table{Name: "t", Policy: api.Sum, Complete: true, Inputs: []string{"c", "a", "b"},
			Rules: []api.Rule{rule(1, at(), at(), at())}}, "table t sum complete (c,a,b) {\n  *,*,* => 1;\n}\n"},
		{"no ranges, but a list", single(rule(1, api.Cell{Ranges: []api.Range{}})), "table t first (a) {\n  * => 1;\n}\n"},
		{"names like words of the form", api.Table{Name: "table", Policy: api.Any, Inputs: []string{"not", "complete", "domain"},
			Rules: []api.Rule{rule(1, at(), not(1, 1), at(2, 2))}}, "table table any (not,complete,domain) {\n  *,not 1,2 => 1;\n}\n"},
		{"six rules", single(slices.Repeat([]api.Rule{rule(5, at(5, 5))}, 6)...),
			"table t first (a) {\n" + strings.Repeat("  5 => 5;\n", 6) + "}\n"},
	}
	for _, c := range cases {
		if got, code := Table(c.x); got != c.want || code != api.OK {
			t.Errorf("%s: %q, %d", c.name, got, code)
		}
	}
}

func TestTableOfEachPolicy(t *testing.T) {
	words := map[int]string{
		api.Unique: "unique", api.Any: "any", api.First: "first", api.Least: "least", api.Most: "most", api.Sum: "sum", api.Count: "count",
	}
	for policy, word := range words {
		for _, complete := range []bool{false, true} {
			x := single(rule(1, at(0, 9)))
			x.Policy, x.Complete = policy, complete
			want := "table t " + word + " (a) {\n  0..9 => 1;\n}\n"
			if complete {
				want = "table t " + word + " complete (a) {\n  0..9 => 1;\n}\n"
			}
			if got, code := Table(x); got != want || code != api.OK {
				t.Errorf("policy %d: %q, %d", policy, got, code)
			}
		}
	}
}

func TestTableOfEachCell(t *testing.T) {
	cases := []struct {
		c    api.Cell
		want string
	}{
		{at(), "*"},
		{at(0, 0), "0"},
		{at(7, 7), "7"},
		{at(-7, -7), "-7"},
		{at(0, 1), "0..1"},
		{at(-1, 0), "-1..0"},
		{at(-20, -10), "-20..-10"},
		{at(-top, top), "-1000000..1000000"},
		{at(top, top), "1000000"},
		{at(-top, -top), "-1000000"},
		{at(1, 1, 3, 3), "1|3"},
		{at(-9, -5, -1, -1, 3, 3, 10, 12), "-9..-5|-1|3|10..12"},
		{not(0, 0), "not 0"},
		{not(-3, 5), "not -3..5"},
		{not(1, 1, 3, 4, 6, 6, 8, 9), "not 1|3..4|6|8..9"},
	}
	for _, c := range cases {
		for _, out := range []string{"0", "12", "-12", "1000000", "-1000000"} {
			x := single(rule(map[string]int{"12": 12, "-12": -12, "1000000": top, "-1000000": -top}[out], c.c))
			want := "table t first (a) {\n  " + c.want + " => " + out + ";\n}\n"
			if got, code := Table(x); got != want || code != api.OK {
				t.Errorf("%v: %q, %d", c.c, got, code)
			}
		}
	}
}

func TestTableOfBadTables(t *testing.T) {
	changes := map[string]func(x *api.Table){
		"no name":                  func(x *api.Table) { x.Name = "" },
		"a long name":              func(x *api.Table) { x.Name = "abcdefghi" },
		"a very long name":         func(x *api.Table) { x.Name = strings.Repeat("a", api.MaxSource) },
		"a space in the name":      func(x *api.Table) { x.Name = "a b" },
		"no policy":                func(x *api.Table) { x.Policy = 0 },
		"an eighth policy":         func(x *api.Table) { x.Policy = 8 },
		"a negative policy":        func(x *api.Table) { x.Policy = -1 },
		"the smallest policy":      func(x *api.Table) { x.Policy = math.MinInt },
		"the greatest policy":      func(x *api.Table) { x.Policy = math.MaxInt },
		"no inputs":                func(x *api.Table) { x.Inputs = nil },
		"an input without a name":  func(x *api.Table) { x.Inputs[1] = "" },
		"an input that is no name": func(x *api.Table) { x.Inputs[0] = "A" },
		"the same input twice":     func(x *api.Table) { x.Inputs[1] = "a" },
		"fewer inputs than cells":  func(x *api.Table) { x.Inputs = x.Inputs[:1] },
		"more inputs than cells":   func(x *api.Table) { x.Inputs = []string{"a", "b", "c"} },
		"no rules":                 func(x *api.Table) { x.Rules = nil },
		"too many rules":           func(x *api.Table) { x.Rules = slices.Repeat(x.Rules[:1], api.MaxRules+1) },
		"a text that is too long":  func(x *api.Table) { x.Rules = slices.Repeat(x.Rules, api.MaxSource) },
		"a great Out":              func(x *api.Table) { x.Rules[1].Out = top + 1 },
		"the smallest Out":         func(x *api.Table) { x.Rules[1].Out = math.MinInt },
		"a rule without cells":     func(x *api.Table) { x.Rules[2].Cells = nil },
		"Not without ranges":       func(x *api.Table) { x.Rules[2].Cells[1] = not() },
		"an empty range":           func(x *api.Table) { x.Rules[2].Cells[1] = at(4, 3) },
		"ranges that touch":        func(x *api.Table) { x.Rules[0].Cells[1] = at(1, 2, 3, 4) },
		"ranges out of order":      func(x *api.Table) { x.Rules[0].Cells[0] = at(5, 6, 1, 2) },
		"a range out of bounds":    func(x *api.Table) { x.Rules[0].Cells[0] = at(0, top+1) },
		"too many ranges":          func(x *api.Table) { x.Rules[0].Cells[0] = at(0, 0, 2, 2, 4, 4, 6, 6, 8, 8) },
		"nothing at all":           func(x *api.Table) { *x = api.Table{} },
	}
	for name, change := range changes {
		if got, code := Table(sample(change)); got != "" || code != api.ErrForm {
			t.Errorf("%s: %q, %d", name, got, code)
		}
	}
}

// Within the given limits no good table has a text that is too long, so the
// limit is tested apart from Table.
func TestTableOfTheLongestText(t *testing.T) {
	x := longest()
	if !table.Good(x) {
		t.Fatal("the longest table is not good")
	}
	got, code := Table(x)
	want := "table abcdefgh unique complete (aaaaaaaa,bbbbbbbb,cccccccc) {\n" +
		strings.Repeat("  "+strings.Repeat("not -1000000..-999999|-999997..-999996|-999994..-999993|-999991..-999990,", 2)+
			"not -1000000..-999999|-999997..-999996|-999994..-999993|-999991..-999990 => -1000000;\n", 6) + "}\n"
	if got != want || code != api.OK {
		t.Errorf("%q, %d", got, code)
	}
}

func TestLimited(t *testing.T) {
	for _, n := range []int{0, 1, api.MaxSource - 1, api.MaxSource} {
		s := strings.Repeat("x", n)
		if got, code := limited(s); got != s || code != api.OK {
			t.Errorf("%d bytes: %q, %d", n, got, code)
		}
	}
	for _, n := range []int{api.MaxSource + 1, 2 * api.MaxSource} {
		if got, code := limited(strings.Repeat("x", n)); got != "" || code != api.ErrLong {
			t.Errorf("%d bytes: %q, %d", n, got, code)
		}
	}
}

func TestTableModifiesNothing(t *testing.T) {
	// The lists have spare capacity, which must not be modified either.
	build := func() api.Table {
		ranges := set(0, 4, 6, 9, 11, 12)
		cells := []api.Cell{{Not: true, Ranges: ranges[:2]}, at(), at(5, 5)}
		rules := []api.Rule{{Out: 1, Cells: cells[:2]}, rule(2, at(1, 1)), rule(3)}
		inputs := []string{"b", "a", "spare"}
		return api.Table{Name: "t", Policy: api.Most, Inputs: inputs[:2], Rules: rules[:1]}
	}
	whole := func(x api.Table) []any {
		cells := x.Rules[0].Cells
		return []any{x, x.Inputs[:cap(x.Inputs)], x.Rules[:cap(x.Rules)], cells[:cap(cells)], cells[0].Ranges[:cap(cells[0].Ranges)]}
	}
	x := build()
	if got, code := Table(x); got != "table t most (b,a) {\n  not 0..4|6..9,* => 1;\n}\n" || code != api.OK {
		t.Errorf("%q, %d", got, code)
	}
	if !reflect.DeepEqual(whole(x), whole(build())) {
		t.Errorf("modified: %v", whole(x))
	}
}

// P4.2

// domains are domains and their texts, which are empty if they are not good.
func domains() map[api.Domain]string {
	return map[api.Domain]string{
		{Name: "a", Lo: 0, Hi: 9}:                         "domain a 0..9\n",
		{Name: "a", Lo: -5, Hi: 9}:                        "domain a -5..9\n",
		{Name: "a", Lo: -50, Hi: -20}:                     "domain a -50..-20\n",
		{Name: "age", Lo: 5, Hi: 5}:                       "domain age 5..5\n",
		{Name: "z", Lo: 0, Hi: 0}:                         "domain z 0..0\n",
		{Name: "z", Lo: -3, Hi: -3}:                       "domain z -3..-3\n",
		{Name: "abcdefgh", Lo: -top, Hi: top}:             "domain abcdefgh -1000000..1000000\n",
		{Name: "a", Lo: top, Hi: top}:                     "domain a 1000000..1000000\n",
		{Name: "a", Lo: -top, Hi: -top}:                   "domain a -1000000..-1000000\n",
		{Name: "domain", Lo: 1, Hi: 2}:                    "domain domain 1..2\n",
		{Name: "table", Lo: 1, Hi: 2}:                     "domain table 1..2\n",
		{}:                                                "",
		{Lo: 1, Hi: 2}:                                    "",
		{Name: "abcdefghi", Lo: 1, Hi: 2}:                 "",
		{Name: "A", Lo: 1, Hi: 2}:                         "",
		{Name: "a b", Lo: 1, Hi: 2}:                       "",
		{Name: "a1", Lo: 1, Hi: 2}:                        "",
		{Name: "ä", Lo: 1, Hi: 2}:                         "",
		{Name: "a\n", Lo: 1, Hi: 2}:                       "",
		{Name: strings.Repeat("a", 3000), Lo: 1, Hi: 2}:   "",
		{Name: "a", Lo: 2, Hi: 1}:                         "",
		{Name: "a", Lo: 1, Hi: -1}:                        "",
		{Name: "a", Lo: 0, Hi: top + 1}:                   "",
		{Name: "a", Lo: -top - 1, Hi: 0}:                  "",
		{Name: "a", Lo: top + 1, Hi: top + 1}:             "",
		{Name: "a", Lo: -top - 1, Hi: -top - 1}:           "",
		{Name: "a", Lo: math.MinInt, Hi: math.MaxInt}:     "",
		{Name: "a", Lo: math.MaxInt, Hi: math.MinInt}:     "",
		{Name: "a", Lo: 0, Hi: math.MaxInt}:               "",
		{Name: "a", Lo: math.MinInt, Hi: 0}:               "",
		{Name: "a", Lo: math.MaxInt, Hi: math.MaxInt}:     "",
		{Name: "a", Lo: math.MinInt, Hi: math.MinInt + 1}: "",
	}
}

func TestGoodDomain(t *testing.T) {
	for d, want := range domains() {
		if got := GoodDomain(d); got != (want != "") {
			t.Errorf("GoodDomain(%v) = %v", d, got)
		}
	}
}

func TestDomain(t *testing.T) {
	for d, want := range domains() {
		code := api.OK
		if want == "" {
			code = api.ErrForm
		}
		if got, e := Domain(d); got != want || e != code {
			t.Errorf("Domain(%v) = %q, %d", d, got, e)
		}
	}
}
