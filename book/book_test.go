package book

import (
	"fmt"
	"math"
	"slices"
	"strings"
	"testing"

	"ratebook/api"
	"ratebook/box"
	"ratebook/text"
)

const top = api.MaxNumber

// read builds a book of domains and tables from their texts, in the order in
// which they are given.
func read(texts ...string) api.Book {
	var b api.Book
	for _, s := range texts {
		d, x, isTable, code := text.Parse(s)
		switch {
		case code != api.OK:
			panic(s)
		case isTable:
			b.Tables = append(b.Tables, x)
		default:
			b.Domains = append(b.Domains, d)
		}
	}
	return b
}

// tableOf builds a table from its text.
func tableOf(s string) api.Table {
	return read(s).Tables[0]
}

// same compares values as they are printed, which is the same for nil and empty
// lists.
func same(a, b any) bool {
	return fmt.Sprintf("%+v", a) == fmt.Sprintf("%+v", b)
}

// namesOf returns the names of the domains and of the tables of a book.
func namesOf(b api.Book) string {
	var domains, tables []string
	for _, d := range b.Domains {
		domains = append(domains, d.Name)
	}
	for _, x := range b.Tables {
		tables = append(tables, x.Name)
	}
	return strings.Join(domains, ",") + ";" + strings.Join(tables, ",")
}

// twins has names that stand twice, also as a domain and as a table, and are
// out of order.
func twins() api.Book {
	return read(
		"domain m 5..6",
		"domain a 0..9",
		"domain m 7..8",
		"domain both 1..2",
		"table z first (a) { * => 3; }",
		"table s count (a) { * => 3; }",
		"table z first (a) { * => 4; }",
		"table both first (a) { * => 5; }",
	)
}

// P5.1

func TestFindDomain(t *testing.T) {
	cases := map[string]api.Domain{
		"a":    {Name: "a", Lo: 0, Hi: 9},
		"m":    {Name: "m", Lo: 5, Hi: 6},
		"both": {Name: "both", Lo: 1, Hi: 2},
		"s":    {},
		"z":    {},
		"q":    {},
		"aa":   {},
		"A":    {},
		"":     {},
	}
	for name, want := range cases {
		if got, ok := FindDomain(twins(), name); got != want || ok != (want.Name != "") {
			t.Errorf("FindDomain(%q) = %v, %v", name, got, ok)
		}
		if got, ok := FindDomain(api.Book{}, name); got != (api.Domain{}) || ok {
			t.Errorf("FindDomain(%q) of the empty book = %v, %v", name, got, ok)
		}
	}
}

func TestFindTable(t *testing.T) {
	cases := map[string]api.Table{
		"z":    twins().Tables[0],
		"s":    twins().Tables[1],
		"both": twins().Tables[3],
		"a":    {},
		"m":    {},
		"q":    {},
		"zz":   {},
		"":     {},
	}
	for name, want := range cases {
		if got, ok := FindTable(twins(), name); !same(got, want) || ok != (want.Name != "") {
			t.Errorf("FindTable(%q) = %v, %v", name, got, ok)
		}
		if got, ok := FindTable(api.Book{}, name); !same(got, api.Table{}) || ok {
			t.Errorf("FindTable(%q) of the empty book = %v, %v", name, got, ok)
		}
	}
}

func TestFindWhatIsNotGood(t *testing.T) {
	d := api.Domain{Name: "", Lo: 9, Hi: 1}
	x := api.Table{Name: "T 1", Policy: 99}
	b := api.Book{Domains: []api.Domain{d}, Tables: []api.Table{x}}
	if got, ok := FindDomain(b, ""); got != d || !ok {
		t.Errorf("FindDomain = %v, %v", got, ok)
	}
	if got, ok := FindTable(b, "T 1"); !same(got, x) || !ok {
		t.Errorf("FindTable = %v, %v", got, ok)
	}
}

// spans has a table for each way in which Span finds the range.
func spans() api.Book {
	return read(
		"domain a -5..9",
		"domain one 7..7",
		"domain wide -1000000..1000000",
		"table any any (a) { 1 => 4; 2 => -4; 3 => 0; }",
		"table count count (a) { 1 => 40; 2 => 50; 3 => 60; }",
		"table sum sum (a) { 1 => 4; 2 => -4; 3 => 5; 4 => -6; }",
		"table great sum (a) { * => 1000000; * => 1; }",
		"table small sum (a) { * => -1000000; * => -1; }",
		"table brim sum (a) { * => 999999; * => 1; * => -999998; * => -2; }",
	)
}

func TestAll(t *testing.T) {
	cases := []struct {
		b    api.Book
		name string
		want api.Range
		ok   bool
	}{
		{spans(), "a", api.Range{Lo: -5, Hi: 9}, true},
		{spans(), "one", api.Range{Lo: 7, Hi: 7}, true},
		{spans(), "wide", api.Range{Lo: -top, Hi: top}, true},
		{spans(), "any", api.Range{Lo: -4, Hi: 4}, true},
		{spans(), "count", api.Range{Lo: 0, Hi: 3}, true},
		{spans(), "sum", api.Range{Lo: -10, Hi: 9}, true},
		{spans(), "great", api.Range{Lo: 0, Hi: top + 1}, true},
		{spans(), "small", api.Range{Lo: -top - 1, Hi: 0}, true},
		{spans(), "q", api.Range{}, false},
		{spans(), "", api.Range{}, false},
		{api.Book{}, "a", api.Range{}, false},
		{twins(), "m", api.Range{Lo: 5, Hi: 6}, true},
		{twins(), "z", api.Range{Lo: 3, Hi: 3}, true},
		{twins(), "both", api.Range{Lo: 1, Hi: 2}, true},
		{api.Book{Domains: []api.Domain{{Name: "x", Lo: math.MaxInt, Hi: math.MinInt}}}, "x", api.Range{Lo: math.MaxInt, Hi: math.MinInt}, true},
	}
	for _, c := range cases {
		if got, ok := All(c.b, c.name); got != c.want || ok != c.ok {
			t.Errorf("All(%s, %q) = %v, %v", namesOf(c.b), c.name, got, ok)
		}
	}
}

// P5.2

// of returns a table with these inputs, of which Box looks at nothing else.
func of(inputs ...string) api.Table {
	return api.Table{Name: "t", Inputs: inputs}
}

func TestBox(t *testing.T) {
	wide, narrow, sum := api.Range{Lo: -top, Hi: top}, api.Range{Lo: -5, Hi: 9}, api.Range{Lo: -10, Hi: 9}
	cases := []struct {
		inputs []string
		want   []api.Range
		ok     bool
	}{
		{[]string{"a"}, []api.Range{narrow}, true},
		{[]string{"sum"}, []api.Range{sum}, true},
		{[]string{"a", "sum"}, []api.Range{narrow, sum}, true},
		{[]string{"sum", "wide", "a"}, []api.Range{sum, wide, narrow}, true},
		{[]string{"wide", "brim"}, []api.Range{wide, wide}, true},
		{[]string{"a", "a"}, []api.Range{narrow, narrow}, true},
		{nil, nil, true},
		{[]string{"q"}, nil, false},
		{[]string{""}, nil, false},
		{[]string{"q", "a"}, nil, false},
		{[]string{"a", "q"}, nil, false},
		{[]string{"a", "sum", "q"}, nil, false},
		{[]string{"great"}, nil, false},
		{[]string{"small"}, nil, false},
		{[]string{"a", "great"}, nil, false},
		{[]string{"small", "a"}, nil, false},
	}
	for _, c := range cases {
		var want api.Box
		for _, r := range c.want {
			want = append(want, []api.Range{r})
		}
		if got, ok := Box(spans(), of(c.inputs...)); !same(got, want) || ok != c.ok {
			t.Errorf("Box(%q) = %v, %v", c.inputs, got, ok)
		}
	}
	if got, ok := Box(spans(), of("a", "one", "wide")); !ok || !box.Good(got, 3) {
		t.Errorf("%v is not good", got)
	}
	if got, ok := Box(api.Book{}, of("a")); len(got) > 0 || ok {
		t.Errorf("Box of the empty book = %v, %v", got, ok)
	}
	// A table that is in the book may have itself as an input.
	self := read("table t any (t) { 1 => 2; 3 => 4; }")
	if got, ok := Box(self, self.Tables[0]); !same(got, api.Box{{{Lo: 2, Hi: 4}}}) || !ok {
		t.Errorf("Box of a table with itself as an input = %v, %v", got, ok)
	}
}

// TestBoxOfWildDomains has domains of which a single end is out of bounds.
func TestBoxOfWildDomains(t *testing.T) {
	cases := map[api.Range]bool{
		{Lo: -top, Hi: top}:                    true,
		{Lo: top, Hi: top}:                     true,
		{Lo: -top, Hi: -top}:                   true,
		{Lo: -top - 1, Hi: top}:                false,
		{Lo: -top, Hi: top + 1}:                false,
		{Lo: top + 1, Hi: 0}:                   false,
		{Lo: 0, Hi: -top - 1}:                  false,
		{Lo: math.MinInt, Hi: 0}:               false,
		{Lo: 0, Hi: math.MaxInt}:               false,
		{Lo: math.MinInt, Hi: math.MaxInt}:     false,
		{Lo: math.MaxInt, Hi: math.MinInt}:     false,
		{Lo: top + 1, Hi: top + 1}:             false,
		{Lo: -top - 1, Hi: -top - 1}:           false,
		{Lo: math.MinInt, Hi: math.MinInt}:     false,
		{Lo: math.MaxInt, Hi: math.MaxInt}:     false,
		{Lo: math.MinInt, Hi: -top}:            false,
		{Lo: top, Hi: math.MaxInt}:             false,
		{Lo: -top + 1, Hi: top - 1}:            true,
		{Lo: math.MinInt + 1, Hi: -2*top - 12}: false,
	}
	for r, want := range cases {
		b := api.Book{Domains: []api.Domain{{Name: "a", Lo: r.Lo, Hi: r.Hi}}}
		got, ok := Box(b, of("a"))
		if ok != want || want && !same(got, api.Box{{r}}) || !want && len(got) > 0 {
			t.Errorf("%v: %v, %v", r, got, ok)
		}
	}
}

// P5.6

func TestShow(t *testing.T) {
	cases := map[string]string{
		"a":        "domain a 0..9\n",
		"m":        "domain m 5..6\n",
		"both":     "domain both 1..2\n",
		"s":        "table s count (a) {\n  * => 3;\n}\n",
		"z":        "table z first (a) {\n  * => 3;\n}\n",
		"q":        "",
		"":         "",
		"a ":       "",
		"both\x00": "",
	}
	for name, want := range cases {
		if got := Show(twins(), name); got != want {
			t.Errorf("Show(%q) = %q", name, got)
		}
		if got := Show(api.Book{}, name); got != "" {
			t.Errorf("Show(%q) of the empty book = %q", name, got)
		}
	}
	complete := "table t least complete (a,b) {\n  0..4|7,* => -1;\n  not 3,-2 => 5;\n}\n"
	if got := Show(read(complete), "t"); got != complete {
		t.Errorf("Show = %q", got)
	}
}

func TestShowWhatHasNoText(t *testing.T) {
	good := read("table a any (b) { * => 1; }", "table t any (b) { * => 1; }")
	good.Domains = []api.Domain{{Name: "a", Lo: 2, Hi: 1}, {Name: "", Lo: 1, Hi: 2}, {Name: "B", Lo: 1, Hi: 2}}
	good.Tables[1].Policy = 8
	// The domain a is not good, but it is there, so that the table a is not shown.
	for _, name := range []string{"a", "t", "", "B"} {
		if got := Show(good, name); got != "" {
			t.Errorf("Show(%q) = %q", name, got)
		}
	}
}

// P5.7

// shelf has names that are in increasing order and differ in all ways that
// matter for it.
func shelf() api.Book {
	return read(
		"domain a 0..9",
		"domain c 1..9",
		"domain ca 2..9",
		"domain m 3..9",
		"table b any (a) { * => 1; }",
		"table n any (a) { * => 2; }",
		"table nn any (a) { * => 3; }",
		"table z any (a) { * => 4; }",
	)
}

// doubled has names that stand several times, as domains, as tables, and as
// both.
func doubled() api.Book {
	return read(
		"domain a 0..1",
		"domain m 0..2",
		"domain m 0..3",
		"domain z 0..4",
		"table a any (x) { * => 5; }",
		"table a any (x) { * => 6; }",
		"table m any (x) { * => 7; }",
		"table z any (x) { * => 8; }",
		"table z any (x) { * => 9; }",
		"table z any (x) { * => 10; }",
	)
}

func TestWithout(t *testing.T) {
	cases := []struct {
		b          api.Book
		name, want string
	}{
		{shelf(), "a", "c,ca,m;b,n,nn,z"},
		{shelf(), "c", "a,ca,m;b,n,nn,z"},
		{shelf(), "m", "a,c,ca;b,n,nn,z"},
		{shelf(), "b", "a,c,ca,m;n,nn,z"},
		{shelf(), "nn", "a,c,ca,m;b,n,z"},
		{shelf(), "z", "a,c,ca,m;b,n,nn"},
		{shelf(), "q", "a,c,ca,m;b,n,nn,z"},
		{shelf(), "", "a,c,ca,m;b,n,nn,z"},
		{doubled(), "a", "m,m,z;m,z,z,z"},
		{doubled(), "m", "a,z;a,a,z,z,z"},
		{doubled(), "z", "a,m,m;a,a,m"},
		{doubled(), "q", "a,m,m,z;a,a,m,z,z,z"},
		{read("domain a 0..9"), "a", ";"},
		{read("table a any (x) { * => 5; }"), "a", ";"},
		{api.Book{}, "a", ";"},
		{api.Book{}, "", ";"},
	}
	for _, c := range cases {
		got := Without(c.b, c.name)
		if namesOf(got) != c.want {
			t.Errorf("Without(%s, %q) = %s", namesOf(c.b), c.name, namesOf(got))
		}
		checkKept(t, c.b, got, c.name)
	}
}

// checkKept expects that everything in the book b with another name is in got
// as it was, and in the same order.
func checkKept(t *testing.T, b, got api.Book, name string) {
	t.Helper()
	var want, rest api.Book
	for _, d := range b.Domains {
		if d.Name != name {
			want.Domains = append(want.Domains, d)
		}
	}
	for _, x := range b.Tables {
		if x.Name != name {
			want.Tables = append(want.Tables, x)
		}
	}
	for _, d := range got.Domains {
		if d.Name != name {
			rest.Domains = append(rest.Domains, d)
		}
	}
	for _, x := range got.Tables {
		if x.Name != name {
			rest.Tables = append(rest.Tables, x)
		}
	}
	if !same(rest, want) {
		t.Errorf("beside %q: %+v, not %+v", name, rest, want)
	}
}

func TestWith(t *testing.T) {
	cases := []struct {
		b          api.Book
		name, want string
	}{
		{shelf(), "a", "a,c,ca,m;b,n,nn,z"},
		{shelf(), "aa", "a,aa,c,ca,m;b,n,nn,z"},
		{shelf(), "b", "a,b,c,ca,m;n,nn,z"},
		{shelf(), "c", "a,c,ca,m;b,n,nn,z"},
		{shelf(), "cb", "a,c,ca,cb,m;b,n,nn,z"},
		{shelf(), "l", "a,c,ca,l,m;b,n,nn,z"},
		{shelf(), "m", "a,c,ca,m;b,n,nn,z"},
		{shelf(), "z", "a,c,ca,m,z;b,n,nn"},
		{shelf(), "zz", "a,c,ca,m,zz;b,n,nn,z"},
		{shelf(), "", ",a,c,ca,m;b,n,nn,z"},
		{shelf(), "Z", "Z,a,c,ca,m;b,n,nn,z"},
		{shelf(), "\xff", "a,c,ca,m,\xff;b,n,nn,z"},
		{doubled(), "a", "a,m,m,z;m,z,z,z"},
		{doubled(), "m", "a,m,z;a,a,z,z,z"},
		{doubled(), "b", "a,b,m,m,z;a,a,m,z,z,z"},
		{doubled(), "n", "a,m,m,n,z;a,a,m,z,z,z"},
		{api.Book{}, "a", "a;"},
	}
	for _, c := range cases {
		// Even a domain that is not good is inserted.
		for _, d := range []api.Domain{{Name: c.name, Lo: 5, Hi: 55}, {Name: c.name, Lo: 5, Hi: math.MinInt}} {
			got := With(c.b, d)
			if namesOf(got) != c.want {
				t.Errorf("With(%s, %q) = %s", namesOf(c.b), c.name, namesOf(got))
			}
			if found, ok := FindDomain(got, c.name); !ok || found != d {
				t.Errorf("With(%s, %q): %v", namesOf(c.b), c.name, found)
			}
			checkKept(t, c.b, got, c.name)
		}
	}
}

func TestWithTable(t *testing.T) {
	cases := []struct {
		b          api.Book
		name, want string
	}{
		{shelf(), "a", "c,ca,m;a,b,n,nn,z"},
		{shelf(), "b", "a,c,ca,m;b,n,nn,z"},
		{shelf(), "m", "a,c,ca;b,m,n,nn,z"},
		{shelf(), "n", "a,c,ca,m;b,n,nn,z"},
		{shelf(), "na", "a,c,ca,m;b,n,na,nn,z"},
		{shelf(), "nnn", "a,c,ca,m;b,n,nn,nnn,z"},
		{shelf(), "z", "a,c,ca,m;b,n,nn,z"},
		{shelf(), "zz", "a,c,ca,m;b,n,nn,z,zz"},
		{shelf(), "", "a,c,ca,m;,b,n,nn,z"},
		{shelf(), "Z", "a,c,ca,m;Z,b,n,nn,z"},
		{shelf(), "\xff", "a,c,ca,m;b,n,nn,z,\xff"},
		{doubled(), "a", "m,m,z;a,m,z,z,z"},
		{doubled(), "z", "a,m,m;a,a,m,z"},
		{doubled(), "b", "a,m,m,z;a,a,b,m,z,z,z"},
		{doubled(), "n", "a,m,m,z;a,a,m,n,z,z,z"},
		{api.Book{}, "a", ";a"},
	}
	for _, c := range cases {
		good := tableOf("table t most complete (b,a) { 3,4 => 55; *,not 1 => 66; }")
		good.Name = c.name
		// Even a table that is not good is inserted.
		for _, x := range []api.Table{good, {Name: c.name, Policy: -1}} {
			got := WithTable(c.b, x)
			if namesOf(got) != c.want {
				t.Errorf("WithTable(%s, %q) = %s", namesOf(c.b), c.name, namesOf(got))
			}
			if found, ok := FindTable(got, c.name); !ok || !same(found, x) {
				t.Errorf("WithTable(%s, %q): %v", namesOf(c.b), c.name, found)
			}
			checkKept(t, c.b, got, c.name)
		}
	}
}

// TestWithManyNames puts names into an empty book in all orders.
func TestWithManyNames(t *testing.T) {
	names := []string{"b", "ab", "ba", "z", "a"}
	for i, order := range orders(names) {
		var domains, tables api.Book
		for _, name := range order {
			domains = With(domains, api.Domain{Name: name, Lo: i})
			tables = WithTable(tables, api.Table{Name: name, Policy: i})
		}
		if got := namesOf(domains) + namesOf(tables); got != "a,ab,b,ba,z;;a,ab,b,ba,z" {
			t.Errorf("%v: %s", order, got)
		}
	}
}

// orders returns all orders of a list.
func orders(l []string) [][]string {
	if len(l) == 0 {
		return [][]string{nil}
	}
	var out [][]string
	for i, first := range l {
		rest := slices.Concat(l[:i], l[i+1:])
		for _, order := range orders(rest) {
			out = append(out, append([]string{first}, order...))
		}
	}
	return out
}

// TestBooksAreValues inserts into and deletes from one book in several ways,
// and expects that no result changes another one.
func TestBooksAreValues(t *testing.T) {
	b := With(WithTable(With(shelf(), api.Domain{Name: "k"}), tableOf("table o any (a) { * => 1; }")), api.Domain{Name: "l"})
	kept := fmt.Sprintf("%+v", b)
	results := map[string]func() api.Book{
		"a,ab,c,ca,k,l,m;b,n,nn,o,z": func() api.Book { return With(b, api.Domain{Name: "ab"}) },
		"a,c,ca,k,l,m,x;b,n,nn,o,z":  func() api.Book { return With(b, api.Domain{Name: "x"}) },
		"a,c,ca,k,l,m,y;b,n,nn,o,z":  func() api.Book { return With(b, api.Domain{Name: "y"}) },
		"a,c,ca,k,l,m;aa,b,n,nn,o,z": func() api.Book { return WithTable(b, api.Table{Name: "aa"}) },
		"a,c,ca,k,l,m;b,n,nn,o,z,zz": func() api.Book { return WithTable(b, api.Table{Name: "zz"}) },
		"c,ca,k,l,m;b,n,nn,o,z":      func() api.Book { return Without(b, "a") },
		"a,c,ca,k,l,m;n,nn,o,z":      func() api.Book { return Without(b, "b") },
	}
	books := map[string]api.Book{}
	for want, result := range results {
		books[want] = result()
	}
	for want, got := range books {
		if namesOf(got) != want {
			t.Errorf("%s, not %s", namesOf(got), want)
		}
	}
	if fmt.Sprintf("%+v", b) != kept {
		t.Errorf("the book became %+v", b)
	}
}
