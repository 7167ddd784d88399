package book

import (
	"fmt"
	"math"
	"slices"
	"strconv"
	"strings"
	"testing"

	"ratebook/api"
	"ratebook/table"
)

// depends builds a table from its name and its inputs, as in "t(a,b)".
func depends(s string) api.Table {
	name, inputs, _ := strings.Cut(strings.TrimSuffix(s, ")"), "(")
	x := api.Table{Name: name, Policy: api.Any, Inputs: strings.Split(inputs, ",")}
	x.Rules = []api.Rule{{Cells: make([]api.Cell, len(x.Inputs)), Out: 1}}
	return x
}

// graph builds a book with the domains a, b and c, and tables as depends does.
func graph(tables ...string) api.Book {
	b := read("domain a 0..9", "domain b 0..9", "domain c 0..9")
	for _, s := range tables {
		b.Tables = append(b.Tables, depends(s))
	}
	return b
}

// P5.3

func TestOrder(t *testing.T) {
	cases := []struct {
		b    api.Book
		want string
		ok   bool
	}{
		{api.Book{}, "", true},
		{graph(), "", true},
		{graph("t(a)"), "t", true},
		{graph("s(a)", "t(a)", "u(b)"), "s,t,u", true},
		{graph("u(a)", "t(a)", "s(b)"), "u,t,s", true},
		{graph("s(t)", "t(u)", "u(a)"), "u,t,s", true},
		{graph("s(a)", "t(s)", "u(t)"), "s,t,u", true},
		{graph("s(t,u)", "t(a)", "u(a)"), "t,u,s", true},
		{graph("s(u)", "t(a)", "u(a)"), "t,u,s", true},
		// After u the first table is free, and comes before v.
		{graph("s(u)", "t(v)", "u(a)", "v(a)"), "u,s,v,t", true},
		{graph("s(v)", "t(s)", "u(a)", "v(a)"), "u,v,s,t", true},
		{graph("s(t,u)", "t(u,v)", "u(v)", "v(a)"), "v,u,t,s", true},
		{graph("s(a,b,v)", "t(a,s,b)", "u(v,a,b)", "v(c)"), "v,s,t,u", true},
		{graph("p(q)", "q(r)", "r(s)", "s(t)", "t(u)", "u(a)"), "u,t,s,r,q,p", true},
		// Inputs that are no tables do not matter, even if they are in no book.
		{graph("s(x,y,z)", "t(x,s)"), "s,t", true},
		{graph("t(t)"), "", false},
		{graph("t(a,b,t)"), "", false},
		{graph("t(u)", "u(t)"), "", false},
		{graph("s(a)", "t(u)", "u(t)"), "", false},
		{graph("t(u)", "u(t)", "v(a)"), "", false},
		{graph("s(t)", "t(u)", "u(v)", "v(s)"), "", false},
		{graph("s(a,v)", "t(u)", "u(b,t,c)", "v(a)"), "", false},
		{graph("s(t)", "t(t)", "u(a)"), "", false},
	}
	for _, c := range cases {
		if got, ok := Order(c.b); strings.Join(got, ",") != c.want || ok != c.ok {
			t.Errorf("Order(%v) = %v, %v", c.b.Tables, got, ok)
		}
	}
}

// TestOrderOfAllGraphs has all books of three tables whose inputs are each a
// choice of the tables or, if there is none, a domain.
func TestOrderOfAllGraphs(t *testing.T) {
	names := []string{"s", "t", "u"}
	for _, order := range orders(names) {
		for bits := range 1 << 9 {
			b := graph()
			for i, name := range order {
				inputs := chosen(names, bits>>(3*i))
				if len(inputs) == 0 {
					inputs = []string{"a"}
				}
				b.Tables = append(b.Tables, depends(name+"("+strings.Join(inputs, ",")+")"))
			}
			checkOrder(t, b)
		}
	}
}

// chosen returns the names whose bits are 1.
func chosen(names []string, bits int) []string {
	var out []string
	for i, name := range names {
		if bits>>i&1 == 1 {
			out = append(out, name)
		}
	}
	return out
}

// uses reports whether one of the names is an input of x.
func uses(x api.Table, names []string) bool {
	return slices.ContainsFunc(x.Inputs, func(input string) bool { return slices.Contains(names, input) })
}

// ring reports whether there are tables each of which has one of them as an
// input, so that none of them can be the first.
func ring(b api.Book) bool {
	names := strings.Split(strings.Split(namesOf(b), ";")[1], ",")
	for bits := 1; bits < 1<<len(b.Tables); bits++ {
		some := chosen(names, bits)
		if !slices.ContainsFunc(b.Tables, func(x api.Table) bool { return slices.Contains(some, x.Name) && !uses(x, some) }) {
			return true
		}
	}
	return false
}

// checkOrder expects of each name that Order returns that it is the first one
// that may stand there, and no names exactly if there is a ring.
func checkOrder(t *testing.T, b api.Book) {
	t.Helper()
	got, ok := Order(b)
	if ok == ring(b) || !ok && len(got) > 0 || ok && len(got) != len(b.Tables) {
		t.Fatalf("Order(%v) = %v, %v", b.Tables, got, ok)
	}
	for i, name := range got {
		var left []string
		for _, x := range b.Tables {
			if !slices.Contains(got[:i], x.Name) {
				left = append(left, x.Name)
			}
		}
		first := slices.IndexFunc(b.Tables, func(x api.Table) bool { return slices.Contains(left, x.Name) && !uses(x, left) })
		if first < 0 || b.Tables[first].Name != name {
			t.Fatalf("Order(%v) = %v is wrong from %s", b.Tables, got, name)
		}
	}
}

// TestOrderOfManyTables is about its time: books need not be within the limits.
func TestOrderOfManyTables(t *testing.T) {
	const many = 500
	var b api.Book
	for i := range many {
		b.Tables = append(b.Tables, api.Table{Name: strconv.Itoa(i), Inputs: []string{strconv.Itoa(i + 1)}})
	}
	got, ok := Order(b)
	if len(got) != many || !ok || got[0] != strconv.Itoa(many-1) || got[many-1] != "0" {
		t.Errorf("%v, %v", got, ok)
	}
	b.Tables[many-1].Inputs[0] = "0"
	if got, ok := Order(b); len(got) > 0 || ok {
		t.Errorf("a ring: %v, %v", got, ok)
	}
}

// P5.4

// result is what Check returns.
type result struct {
	name string
	at   []int
	code api.Errno
}

func check(b api.Book) result {
	name, at, code := Check(b)
	return result{name, at, code}
}

const (
	whole   = "domain a 0..9"
	perfect = "table t unique complete (a) { 0..4 => 1; 5..9 => 2; }"
)

func TestCheckExamples(t *testing.T) {
	cases := map[string]result{
		"{ 0..4 => 1; 6..9 => 2; }": {"t", []int{5}, api.ErrGap},
		"{ 0..4 => 1; 4..9 => 2; }": {"t", []int{4}, api.ErrClash},
		"{ 0..4 => 1; 5..9 => 2; }": {"", nil, api.OK},
	}
	for rules, want := range cases {
		if got := check(read(whole, "table t unique complete (a) "+rules)); !same(got, want) {
			t.Errorf("%s: %v", rules, got)
		}
	}
	if got := check(graph("t(u)", "u(t)")); !same(got, result{"", nil, api.ErrRing}) {
		t.Errorf("two tables that each have the other one as an input: %v", got)
	}
}

func TestCheckOfGoodBooks(t *testing.T) {
	cases := map[string]api.Book{
		"nothing":                      {},
		"empty lists":                  {Domains: []api.Domain{}, Tables: []api.Table{}},
		"a domain":                     read(whole),
		"a table":                      read(whole, perfect),
		"all that fits":                read(whole, "domain b 1..1", "domain c -5..5", "domain d 0..0", "table p any (a) { * => 1; }", "table q any (b) { * => 1; }", "table r any (c,d) { *,* => 1; }", perfect),
		"a gap, but not complete":      read(whole, "table t unique (a) { 0..4 => 1; 6..9 => 2; }"),
		"Count":                        read(whole, "table t count complete (a) { 0..4 => 1; 3..9 => 2; }"),
		"any, the same":                read(whole, "table t any complete (a) { 0..4 => 1; 3..9 => 1; }"),
		"first":                        read(whole, "table t first complete (a) { 0..4 => 1; 3..9 => 2; }"),
		"outside the domain":           read(whole, "table t unique complete (a) { -5..4 => 1; 5..20 => 2; 11..30 => 3; }"),
		"a greatest sum":               read(whole, "table s sum (a) { * => 999999; * => 1; }", "table t any complete (s) { 0..1000000 => 1; }"),
		"a smallest sum":               read(whole, "table s sum (a) { * => -999999; * => -1; }", "table t any complete (s) { -1000000..0 => 1; }"),
		"a great sum that nobody uses": read(whole, "table s sum (a) { * => 999999; * => 2; }", "table t any (a) { * => 1; }"),
		"a domain nobody uses":         read(whole, "domain b 0..9", perfect),
		"a chain":                      graph("r(s)", "s(t)", "t(u)", "u(a)"),
		"names in other orders":        read("domain x 0..9", "table b any (x) { * => 1; }", "table y any (b,x) { *,* => 1; }"),
		"all numbers":                  read("domain a -1000000..1000000", "table t unique complete (a) { not 0 => 1; 0 => 2; }"),
		"a table that says more than its results": read(whole, "table s any (a) { * => 3; }", "table t unique complete (s) { 3 => 1; 4..9 => 2; 5 => 3; }"),
	}
	for name, b := range cases {
		if got := check(b); !same(got, result{}) {
			t.Errorf("%s: %v", name, got)
		}
	}
}

func TestCheckFull(t *testing.T) {
	domains := read(whole, "domain b 0..9", "domain c 0..9", "domain d 0..9", "domain e 0..9").Domains
	tables := graph("p(a)", "q(a)", "r(a)", "s(a)", "t(a)").Tables
	for n := range 6 {
		for k := range 6 {
			want := result{}
			switch {
			case n > api.MaxDomains || k > api.MaxTables:
				want.code = api.ErrFull
			case n == 0 && k > 0:
				want = result{"p", nil, api.ErrNone}
			}
			if got := check(api.Book{Domains: domains[:n], Tables: tables[:k]}); !same(got, want) {
				t.Errorf("%d domains and %d tables: %v", n, k, got)
			}
		}
	}
	// Whatever else is wrong with it, a book that is too large is full.
	for name, b := range map[string]api.Book{
		"bad domains":     {Domains: make([]api.Domain, 5)},
		"bad tables":      {Tables: make([]api.Table, 5)},
		"many of them":    {Domains: make([]api.Domain, 3000), Tables: make([]api.Table, 3000)},
		"unknown inputs":  graph("p(x)", "q(x)", "r(x)", "s(x)", "t(x)"),
		"rings":           graph("p(p)", "q(q)", "r(r)", "s(s)", "t(t)"),
		"the same domain": read(whole, whole, whole, whole, whole),
	} {
		if got := check(b); !same(got, result{code: api.ErrFull}) {
			t.Errorf("%s: %v", name, got)
		}
	}
}

// badDomains are domains that are not good.
func badDomains() []api.Domain {
	return []api.Domain{
		{},
		{Name: "", Lo: 0, Hi: 9},
		{Name: "abcdefghi", Lo: 0, Hi: 9},
		{Name: "A", Lo: 0, Hi: 9},
		{Name: "b c", Lo: 0, Hi: 9},
		{Name: "b", Lo: 1, Hi: 0},
		{Name: "b", Lo: 0, Hi: top + 1},
		{Name: "b", Lo: -top - 1, Hi: 0},
		{Name: "b", Lo: math.MinInt, Hi: math.MaxInt},
	}
}

// badTables are tables that are not good, made of the table u.
func badTables() []api.Table {
	changes := []func(x *api.Table){
		func(x *api.Table) { *x = api.Table{} },
		func(x *api.Table) { x.Name = "" },
		func(x *api.Table) { x.Name = "uuuuuuuuu" },
		func(x *api.Table) { x.Name = "u1" },
		func(x *api.Table) { x.Policy = 0 },
		func(x *api.Table) { x.Policy = 8 },
		func(x *api.Table) { x.Inputs = nil },
		func(x *api.Table) { x.Inputs = []string{"a", "b"} },
		func(x *api.Table) { x.Inputs = []string{""} },
		func(x *api.Table) { x.Rules = nil },
		func(x *api.Table) { x.Rules = slices.Repeat(x.Rules, 4) },
		func(x *api.Table) { x.Rules[1].Out = top + 1 },
		func(x *api.Table) { x.Rules[1].Cells = nil },
		func(x *api.Table) { x.Rules[0].Cells[0].Ranges = []api.Range{{Lo: 4, Hi: 3}} },
		func(x *api.Table) { x.Rules[0].Cells[0] = api.Cell{Not: true} },
	}
	var out []api.Table
	for _, change := range changes {
		x := tableOf("table u unique (a) { 0..4 => 1; 5..9 => 2; }")
		change(&x)
		out = append(out, x)
	}
	return out
}

func TestCheckForm(t *testing.T) {
	for _, d := range badDomains() {
		for place := range 3 {
			b := read(whole, "domain c 0..9", perfect)
			b.Domains = slices.Insert(b.Domains, place, d)
			if got := check(b); !same(got, result{code: api.ErrForm}) {
				t.Errorf("the domain %v at %d: %v", d, place, got)
			}
		}
	}
	for _, x := range badTables() {
		for place := range 3 {
			b := read(whole, perfect, "table v any (a) { * => 1; }")
			b.Tables = slices.Insert(b.Tables, place, x)
			if got := check(b); !same(got, result{code: api.ErrForm}) {
				t.Errorf("the table %v at %d: %v", x, place, got)
			}
		}
	}
}

func TestCheckNames(t *testing.T) {
	const c, d, u, v = "domain c 0..9", "domain d 0..9", "table u any (a) { * => 1; }", "table v any (a) { * => 1; }"
	cases := map[string]api.Book{
		"domains fall":                 read(c, whole),
		"domains fall at the end":      read(whole, d, c),
		"domains fall at the start":    read(c, whole, d),
		"a domain twice":               read(whole, whole),
		"the last domain twice":        read(whole, c, c),
		"a domain twice, with others":  read(whole, "domain a 1..2"),
		"a prefix behind":              read("domain ab 0..9", whole),
		"tables fall":                  read(whole, u, perfect),
		"tables fall at the end":       read(whole, perfect, v, u),
		"tables fall at the start":     read(whole, u, perfect, v),
		"a table twice":                read(whole, u, u),
		"the last table twice":         read(whole, perfect, u, u),
		"a table twice, with others":   read(whole, u, "table u any (a) { * => 2; }"),
		"a table prefix behind":        read(whole, "table uu any (a) { * => 1; }", u),
		"a table called as a domain":   read(whole, "domain t 0..9", perfect),
		"the last called as the last":  read(whole, "domain v 0..9", u, v),
		"the last called as the first": read("domain v 0..9", "table u any (v) { * => 1; }", "table v any (u) { * => 1; }"),
		"a table called as its input":  read(whole, "table a any (a) { * => 1; }"),
	}
	for name, b := range cases {
		if got := check(b); !same(got, result{code: api.ErrForm}) {
			t.Errorf("%s: %v", name, got)
		}
	}
}

func TestCheckNone(t *testing.T) {
	const great, small = "table g sum (a) { * => 1000000; * => 1; }", "table g sum (a) { * => -1000000; * => -1; }"
	cases := []struct {
		name, first string
		b           api.Book
	}{
		{"no domains", "t", read(perfect)},
		{"the first input", "t", graph("t(x,a)")},
		{"the last input", "t", graph("t(a,b,x)")},
		{"the first table", "s", graph("s(x)", "t(a)", "u(a)")},
		{"the last table", "u", graph("s(a)", "t(a)", "u(x)")},
		{"the first of two", "t", graph("s(a)", "t(x)", "u(y)")},
		{"the first, and not what it depends on", "s", graph("s(t,x)", "t(y)")},
		{"not what depends on it", "t", graph("s(t)", "t(x)")},
		{"a great sum", "t", read(whole, great, "table t any (g) { * => 1; }")},
		{"a small sum", "t", read(whole, small, "table t any (g) { * => 1; }")},
		{"a great sum among others", "t", read(whole, great, "table t any (a,g) { *,* => 1; }", "table u any (g) { * => 1; }")},
		{"a great sum behind", "b", read(whole, "table b any (g) { * => 1; }", great)},
		{"a great sum of itself", "g", read("table g sum (g) { * => 1000000; * => 1; }")},
	}
	for _, c := range cases {
		if got := check(c.b); !same(got, result{c.first, nil, api.ErrNone}) {
			t.Errorf("%s: %v", c.name, got)
		}
	}
}

func TestCheckRing(t *testing.T) {
	for _, b := range []api.Book{
		graph("t(t)"), graph("t(a,t)"), graph("t(u)", "u(t)"), graph("s(a)", "t(u)", "u(t)"), graph("t(u)", "u(t)", "v(a)"),
		graph("s(t)", "t(u)", "u(v)", "v(s)"), graph("s(t)", "t(t)"), {Tables: graph("t(t)").Tables},
	} {
		if got := check(b); !same(got, result{code: api.ErrRing}) {
			t.Errorf("%v: %v", b.Tables, got)
		}
	}
}

func TestCheckClashAndGap(t *testing.T) {
	const b, q = "domain b 0..9", "table q any (a) { * => 3; 5 => 3; }"
	cases := []struct {
		name string
		b    api.Book
		want result
	}{
		{"a clash of a table that is not complete", read(whole, "table t unique (a) { 0..4 => 1; 4..9 => 2; }"), result{"t", []int{4}, api.ErrClash}},
		{"unique, the same", read(whole, "table t unique (a) { 0..4 => 1; 3..9 => 1; }"), result{"t", []int{3}, api.ErrClash}},
		{"any, different", read(whole, "table t any (a) { 0..4 => 1; 3..9 => 2; }"), result{"t", []int{3}, api.ErrClash}},
		{"a gap at the end", read(whole, "table t most complete (a) { 0..8 => 1; }"), result{"t", []int{9}, api.ErrGap}},
		{"a gap at the start", read(whole, "table t sum complete (a) { 1..9 => 1; }"), result{"t", []int{0}, api.ErrGap}},
		{"two inputs", read(whole, b, "table t first complete (b,a) { *,0..8 => 1; 0..6,* => 2; }"), result{"t", []int{7, 9}, api.ErrGap}},
		{"two inputs clash", read(whole, b, "table t unique (b,a) { *,8..9 => 1; 6,* => 2; }"), result{"t", []int{6, 8}, api.ErrClash}},
		{"a clash behind a gap", read(whole, "table t unique complete (a) { 1..4 => 1; 4..9 => 2; }"), result{"t", []int{4}, api.ErrClash}},
		{"the first of two clashes", read(whole, "table t unique (a) { 2..4 => 1; 4..9 => 2; }", "table u unique (a) { 1 => 1; 1 => 2; }"), result{"t", []int{4}, api.ErrClash}},
		{"the first of two gaps", read(whole, "table t any complete (a) { 0..4 => 1; }", "table u any complete (a) { 3 => 1; }"), result{"t", []int{5}, api.ErrGap}},
		{"a gap before a clash", read(whole, "table t any complete (a) { 0..4 => 1; }", "table u unique (a) { 1 => 1; 1 => 2; }"), result{"t", []int{5}, api.ErrGap}},
		{"the second table", read(whole, perfect, "table u unique (a) { 1 => 1; 1 => 2; }"), result{"u", []int{1}, api.ErrClash}},
		{"the fourth table", read(whole, "table q any (a) { * => 1; }", "table r any (a) { * => 1; }", perfect, "table u any complete (a) { 1..9 => 1; }"), result{"u", []int{0}, api.ErrGap}},
		{"names, not dependencies", read(whole, "table s any complete (t) { 2 => 1; }", "table t any complete (a) { 1..9 => 2; 0 => 3; 5 => 3; }"), result{"s", []int{3}, api.ErrGap}},
		{"results of a table", read(whole, q, "table t any complete (q,a) { *,0..4 => 1; 2,* => 2; }"), result{"t", []int{3, 5}, api.ErrGap}},
		{"results of a table clash", read(whole, q, "table t unique (a,q) { *,0..3 => 1; 6..7,* => 2; }"), result{"t", []int{6, 3}, api.ErrClash}},
		{"results of a later table", read(whole, "table b least complete (q) { 0..2 => 1; }", q), result{"b", []int{3}, api.ErrGap}},
		{"a count", read(whole, "table q count (a) { 1 => 9; 2 => 9; }", "table t any complete (q) { 0 => 1; 2 => 1; }"), result{"t", []int{1}, api.ErrGap}},
		{"a sum", read(whole, "table q sum (a) { 1 => 9; 2 => -9; }", "table t any complete (q) { -8..9 => 1; }"), result{"t", []int{-9}, api.ErrGap}},
		{"a range, and not only its results", read(whole, "table q any (a) { 1 => 1; 2 => 3; }", "table t any complete (q) { 1|3 => 1; }"), result{"t", []int{2}, api.ErrGap}},
		{"all numbers", read("domain a -1000000..1000000", "table t unique complete (a) { not 1000000 => 1; }"), result{"t", []int{top}, api.ErrGap}},
	}
	for _, c := range cases {
		if got := check(c.b); !same(got, c.want) {
			t.Errorf("%s: %v", c.name, got)
		}
	}
}

// TestCheckOrderOfErrors has a book in which everything is wrong, and repairs
// it step by step.
func TestCheckOrderOfErrors(t *testing.T) {
	b := read(whole, "domain b 0..9", "domain b 0..9", "domain c 0..9", "domain d 0..9",
		"table s unique complete (s,x) { *,1..2 => 1; *,2..3 => 2; }", "table u unique complete (a) { 1..2 => 1; 2..3 => 2; }", perfect, "table u any (y) { * => 1; }")
	steps := []struct {
		repair func()
		want   result
	}{
		{func() {}, result{code: api.ErrFull}},
		{func() { b.Domains = b.Domains[:4] }, result{code: api.ErrForm}},
		{func() { b.Domains = b.Domains[:2] }, result{code: api.ErrForm}},
		{func() { b.Tables[1], b.Tables[2] = b.Tables[2], b.Tables[1] }, result{code: api.ErrForm}},
		{func() { b.Tables[3].Name = "v" }, result{"s", nil, api.ErrNone}},
		{func() { b.Tables[0].Inputs[1] = "b" }, result{"v", nil, api.ErrNone}},
		{func() { b.Tables[3].Inputs[0] = "b" }, result{code: api.ErrRing}},
		{func() { b.Tables[0].Inputs[0] = "a" }, result{"s", []int{0, 2}, api.ErrClash}},
		{func() { b.Tables[0].Rules = b.Tables[0].Rules[:1] }, result{"s", []int{0, 0}, api.ErrGap}},
		{func() { b.Tables[0].Complete = false }, result{"u", []int{2}, api.ErrClash}},
		{func() { b.Tables[2].Policy = api.First }, result{"u", []int{0}, api.ErrGap}},
		{func() { b.Tables[2].Policy = api.Count }, result{}},
	}
	for i, step := range steps {
		step.repair()
		if got := check(b); !same(got, step.want) {
			t.Fatalf("step %d: %v, not %v", i, got, step.want)
		}
	}
}

// P5.5

func TestAsk(t *testing.T) {
	yes := func(name string, n int) api.Answer { return api.Answer{Name: name, Found: true, N: n} }
	no := func(name string) api.Answer { return api.Answer{Name: name} }
	chain := read(whole, "domain b -5..5",
		"table o count (q,a) { *,* => 7; *,3 => 7; }",
		"table p sum complete (q,b) { 2..9,* => 10; *,0..5 => 100; *,-5..4 => 1000; }",
		"table q any (r) { 4 => 2; 5..9 => 3; }",
		"table r first (a) { 1..3 => 4; 4..6 => 5; 7..9 => 6; }")
	lone := read("domain one 7..7", "table t any complete (one) { 7 => -1000000; }")
	cases := []struct {
		name string
		b    api.Book
		in   []int
		want []api.Answer
	}{
		{"the empty book", api.Book{}, nil, nil},
		{"no tables", read(whole), []int{4}, nil},
		{"a table", read(whole, perfect), []int{4}, []api.Answer{yes("t", 1)}},
		{"another number", read(whole, perfect), []int{5}, []api.Answer{yes("t", 2)}},
		{"the ends of a domain", lone, []int{7}, []api.Answer{yes("t", -top)}},
		{"a chain", chain, []int{1, 0}, []api.Answer{yes("o", 1), yes("p", 1110), yes("q", 2), yes("r", 4)}},
		{"a chain, another first number", chain, []int{3, 0}, []api.Answer{yes("o", 2), yes("p", 1110), yes("q", 2), yes("r", 4)}},
		{"a chain, another second number", chain, []int{9, 5}, []api.Answer{yes("o", 1), yes("p", 110), yes("q", 3), yes("r", 6)}},
		{"a chain without a result", chain, []int{0, 0}, []api.Answer{no("o"), no("p"), no("q"), no("r")}},
		{"the order of inputs", read(whole, "domain b 0..9", "table t first (b,a) { 1,2 => 12; 2,1 => 21; }"), []int{2, 1}, []api.Answer{yes("t", 12)}},
		{"a result of 0", read(whole, "table s any (a) { 3 => 0; }", "table t any (s) { 0 => 0; }"), []int{3}, []api.Answer{yes("s", 0), yes("t", 0)}},
		{"no result is not 0", read(whole, "table s any (a) { 3 => 0; }", "table t any (s) { 0 => 0; }"), []int{4}, []api.Answer{no("s"), no("t")}},
		{"a count without a result", read(whole, "table s any (a) { 3 => 0; }", "table t count complete (s) { * => 1; }"), []int{4}, []api.Answer{no("s"), no("t")}},
		{"a count of nothing", read(whole, "table s count (a) { 3 => 1; }", "table t any complete (s) { 0..1 => 5; }"), []int{4}, []api.Answer{yes("s", 0), yes("t", 5)}},
		{"a great sum", read(whole, "table t sum (a) { * => 1000000; 3 => 999999; }"), []int{3}, []api.Answer{yes("t", 1999999)}},
	}
	for _, c := range cases {
		if got, code := Ask(c.b, c.in); !same(got, c.want) || code != api.OK {
			t.Errorf("%s: %v, %d", c.name, got, code)
		}
	}
}

func TestAskErrors(t *testing.T) {
	b := read("domain a 0..9", "domain b -5..-2", "table t any (a,b) { *,* => 1; }")
	cases := []struct {
		b    api.Book
		in   []int
		want api.Errno
	}{
		{b, []int{0, -5}, api.OK},
		{b, []int{9, -2}, api.OK},
		{b, nil, api.ErrForm},
		{b, []int{}, api.ErrForm},
		{b, []int{3}, api.ErrForm},
		{b, []int{3, -3, 3}, api.ErrForm},
		{b, []int{10}, api.ErrForm},
		{b, []int{10, -3, 0}, api.ErrForm},
		{b, []int{10, -3}, api.ErrRange},
		{b, []int{-1, -3}, api.ErrRange},
		{b, []int{3, -1}, api.ErrRange},
		{b, []int{3, -6}, api.ErrRange},
		{b, []int{-3, 3}, api.ErrRange},
		{b, []int{math.MaxInt, -3}, api.ErrRange},
		{b, []int{3, math.MinInt}, api.ErrRange},
		{api.Book{}, []int{1}, api.ErrForm},
		{read(whole), nil, api.ErrForm},
		{read(whole), []int{10}, api.ErrRange},
		{read(whole, whole, whole, whole, whole), nil, api.ErrFull},
		{read(whole, whole), []int{1, 1}, api.ErrForm},
		{read(whole, whole), []int{10, 10}, api.ErrForm},
		{graph("t(x)"), []int{1, 1, 1}, api.ErrNone},
		{graph("t(x)"), []int{1}, api.ErrNone},
		{graph("t(t)"), []int{1, 1, 1}, api.ErrRing},
		{graph("t(t)"), []int{1, 10, 1}, api.ErrRing},
		// The clash and the gap are at other inputs than the one that is asked for.
		{read(whole, "table t unique (a) { 0..4 => 1; 4..9 => 2; }"), []int{7}, api.ErrClash},
		{read(whole, "table t unique (a) { 0..4 => 1; 4..9 => 2; }"), nil, api.ErrClash},
		{read(whole, "table t any complete (a) { 0..4 => 1; }"), []int{3}, api.ErrGap},
		{read(whole, "table t any complete (a) { 0..4 => 1; }"), []int{33}, api.ErrGap},
	}
	for _, c := range cases {
		got, code := Ask(c.b, c.in)
		if code != c.want || code != api.OK && len(got) > 0 {
			t.Errorf("Ask(%+v, %v) = %v, %d", c.b, c.in, got, code)
		}
	}
}

// P5.3 to P5.5, for many books

// dice makes numbers that look arbitrary and are the same in every run.
type dice uint32

func (d *dice) roll(n int) int {
	*d = *d*1664525 + 1013904223
	return int(*d>>8) % n
}

// cell returns a cell for numbers from 0 to 4.
func (d *dice) cell() string {
	lo := d.roll(5)
	r := strconv.Itoa(lo)
	if hi := d.roll(6); hi > lo {
		r += ".." + strconv.Itoa(hi)
	}
	return []string{r, r, "not " + r, "*", "*"}[d.roll(5)]
}

// table returns the text of a table with some of the given inputs.
func (d *dice) table(name string, inputs []string) string {
	var chosen []string
	for len(chosen) == 0 {
		for _, input := range inputs {
			if len(chosen) < 2 && d.roll(len(inputs)) == 0 {
				chosen = append(chosen, input)
			}
		}
	}
	policy := []string{"unique", "any", "first", "least", "most", "sum", "count"}[d.roll(7)]
	s := "table " + name + " " + policy + " " + []string{"complete ", "", ""}[d.roll(3)] + "(" + strings.Join(chosen, ",") + ") {"
	for range 1 + d.roll(3) {
		cells := []string{d.cell(), d.cell()}[:len(chosen)]
		s += strings.Join(cells, ",") + " => " + strconv.Itoa(d.roll(3)) + ";"
	}
	return s + "}"
}

// book returns a book with the domains a and c, and up to four tables, which
// may have each other as inputs and stand before and behind them.
func (d *dice) book() api.Book {
	texts := []string{"domain a 0..4", "domain c 1..3"}
	names := []string{"b", "d", "e", "f"}[:1+d.roll(4)]
	for i, name := range names {
		inputs := append([]string{"a", "c"}, names[i+1:]...)
		if d.roll(8) == 0 {
			inputs = append(inputs, names[:i+1]...)
		}
		texts = append(texts, d.table(name, inputs))
	}
	return read(texts...)
}

// inputsOf returns all inputs in the box of x, in increasing order, from what
// the chapters say of the ranges of names.
func inputsOf(b api.Book, x api.Table) [][]int {
	out := [][]int{{}}
	for _, name := range x.Inputs {
		var r api.Range
		if i := slices.IndexFunc(b.Domains, func(d api.Domain) bool { return d.Name == name }); i >= 0 {
			r = api.Range{Lo: b.Domains[i].Lo, Hi: b.Domains[i].Hi}
		} else {
			i := slices.IndexFunc(b.Tables, func(x api.Table) bool { return x.Name == name })
			r = table.Span(b.Tables[i])
		}
		var next [][]int
		for _, in := range out {
			for n := r.Lo; n <= r.Hi; n++ {
				next = append(next, append(slices.Clone(in), n))
			}
		}
		out = next
	}
	return out
}

// expected is what Check returns for a book whose names are right, found by
// evaluating the tables for all inputs.
func expected(b api.Book) result {
	if ring(b) {
		return result{code: api.ErrRing}
	}
	for _, x := range b.Tables {
		var gap []int
		for _, in := range inputsOf(b, x) {
			_, ok, code := table.Says(x, in)
			if code == api.ErrTwo {
				return result{x.Name, in, api.ErrClash}
			}
			if !ok && gap == nil {
				gap = in
			}
		}
		if x.Complete && gap != nil {
			return result{x.Name, gap, api.ErrGap}
		}
	}
	return result{}
}

// value returns the value of a name, and whether it has one, by asking for the
// values of the inputs first.
func value(b api.Book, in []int, name string) (int, bool) {
	for i, d := range b.Domains {
		if d.Name == name {
			return in[i], true
		}
	}
	i := slices.IndexFunc(b.Tables, func(x api.Table) bool { return x.Name == name })
	var numbers []int
	for _, input := range b.Tables[i].Inputs {
		n, ok := value(b, in, input)
		if !ok {
			return 0, false
		}
		numbers = append(numbers, n)
	}
	n, ok, _ := table.Says(b.Tables[i], numbers)
	return n, ok
}

func TestManyBooks(t *testing.T) {
	d := dice(5)
	codes := map[api.Errno]int{}
	for range 6000 {
		b := d.book()
		checkOrder(t, b)
		want := expected(b)
		if got := check(b); !same(got, want) {
			t.Fatalf("Check(%+v) = %v, not %v", b, got, want)
		}
		codes[want.code]++
		for a := 0; a <= 4; a++ {
			for c := 1; c <= 3; c++ {
				checkAnswers(t, b, []int{a, c}, want.code)
			}
		}
	}
	// If one of them were rare, the test would show little.
	for _, code := range []api.Errno{api.OK, api.ErrRing, api.ErrClash, api.ErrGap} {
		if codes[code] < 300 {
			t.Errorf("code %d: only %d books", code, codes[code])
		}
	}
}

// checkAnswers compares Ask with the values of the tables, one by one.
func checkAnswers(t *testing.T, b api.Book, in []int, code api.Errno) {
	t.Helper()
	var want []api.Answer
	for _, x := range b.Tables {
		if code == api.OK {
			n, ok := value(b, in, x.Name)
			want = append(want, api.Answer{Name: x.Name, Found: ok, N: n})
		}
	}
	if got, e := Ask(b, in); !same(got, want) || e != code {
		t.Fatalf("Ask(%+v, %v) = %v, %d, not %v, %d", b, in, got, e, want, code)
	}
}

// What holds everywhere

// roomy returns a copy of l with spare capacity, in which the given elements
// stand, so that a write would show.
func roomy[E any](l []E, more ...E) []E {
	return slices.Concat(l, more)[:len(l)]
}

// roomyBook returns a copy of a book in which all lists have spare capacity.
func roomyBook(b api.Book) api.Book {
	var tables []api.Table
	for _, x := range b.Tables {
		x.Inputs = roomy(x.Inputs, "spare", "more")
		var rules []api.Rule
		for _, r := range x.Rules {
			var cells []api.Cell
			for _, c := range r.Cells {
				c.Ranges = roomy(c.Ranges, api.Range{Lo: 77, Hi: 78})
				cells = append(cells, c)
			}
			r.Cells = roomy(cells, api.Cell{Not: true})
			rules = append(rules, r)
		}
		x.Rules = roomy(rules, api.Rule{Out: 77})
		tables = append(tables, x)
	}
	return api.Book{
		Domains: roomy(b.Domains, api.Domain{Name: "spare", Lo: 7}, api.Domain{Name: "more", Lo: 8}),
		Tables:  roomy(tables, api.Table{Name: "spare"}, api.Table{Name: "more"}),
	}
}

// printed returns a book as text, with the spare capacity of all its lists.
func printed(b api.Book) string {
	s := fmt.Sprintf("%+v", b.Domains[:cap(b.Domains)])
	for _, x := range b.Tables[:cap(b.Tables)] {
		s += fmt.Sprintf("%+v %q", x, x.Inputs[:cap(x.Inputs)])
		for _, r := range x.Rules[:cap(x.Rules)] {
			s += fmt.Sprintf("%+v", r)
			for _, c := range r.Cells[:cap(r.Cells)] {
				s += fmt.Sprintf("%+v", c.Ranges[:cap(c.Ranges)])
			}
		}
	}
	return s
}

// someBooks are books that are good, and others of all kinds.
func someBooks() []api.Book {
	d := dice(6)
	out := []api.Book{
		{}, shelf(), doubled(), twins(), spans(), read(whole, perfect), graph("t(t)"), graph("t(x)"), graph("t(u)", "u(t)"),
		{Domains: badDomains(), Tables: badTables()},
		{Domains: make([]api.Domain, 4), Tables: make([]api.Table, 4)},
		{Domains: []api.Domain{}, Tables: []api.Table{}},
		{Tables: []api.Table{{Name: "t", Inputs: slices.Repeat([]string{"t"}, 9)}, {Name: "t"}, {Name: "t", Inputs: []string{"t"}}}},
	}
	for _, x := range badDomains() {
		out = append(out, api.Book{Domains: []api.Domain{x}, Tables: []api.Table{depends("t(" + x.Name + ")")}})
	}
	for _, x := range badTables() {
		out = append(out, api.Book{Domains: read(whole).Domains, Tables: []api.Table{x, depends("v(" + x.Name + ")")}})
	}
	for range 30 {
		out = append(out, d.book())
	}
	return out
}

// TestArgumentsAreNotModified also expects that all functions terminate, where
// the document says nothing about their results.
func TestArgumentsAreNotModified(t *testing.T) {
	added := api.Book{Tables: []api.Table{tableOf("table n any (a,b) { 1,2 => 3; }")}}
	for _, plain := range someBooks() {
		b, in, own := roomyBook(plain), roomy([]int{3, 2}, 9, 9, 9), roomyBook(added)
		kept, keptOwn, keptIn := printed(b), printed(own), slices.Clone(in[:cap(in)])
		for _, name := range []string{"a", "b", "m", "n", "t", "u", "z", "both", "", "q", "\xff"} {
			FindDomain(b, name)
			FindTable(b, name)
			All(b, name)
			Show(b, name)
			Without(b, name)
			With(b, api.Domain{Name: name, Lo: 1, Hi: 2})
			own.Tables[0].Name = name
			WithTable(b, own.Tables[0])
		}
		own.Tables[0].Name = "n"
		for _, x := range append(slices.Clone(b.Tables), own.Tables...) {
			Box(b, x)
		}
		Order(b)
		Check(b)
		for n := range cap(in) {
			Ask(b, in[:n])
		}
		if printed(b) != kept || printed(own) != keptOwn || !slices.Equal(in[:cap(in)], keptIn) {
			t.Fatalf("%s and %s became %s and %s, with %v", kept, keptOwn, printed(b), printed(own), in[:cap(in)])
		}
	}
}

// TestResultsRepeat expects the same results of the same arguments, whatever
// the order is in which a map is ranged over.
func TestResultsRepeat(t *testing.T) {
	results := func(b api.Book) string {
		names, ok := Order(b)
		answers, code := Ask(b, []int{3, 2})
		return fmt.Sprint(names, ok, answers, code, check(b))
	}
	for _, b := range someBooks() {
		first := results(b)
		for range 10 {
			if again := results(b); again != first {
				t.Fatalf("%s, and then %s", first, again)
			}
		}
	}
}
