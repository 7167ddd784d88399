package store

import (
	"fmt"
	"math"
	"slices"
	"strings"
	"testing"

	"ratebook/api"
	"ratebook/book"
	"ratebook/text"
)

// whole and perfect are a domain and a table without gaps and conflicts.
const (
	whole   = "domain a 0..9\n"
	perfect = "table t unique complete (a) {\n  0..4 => 1;\n  5..9 => 2;\n}\n"
)

// wild are numbers of sessions that do not exist.
func wild() []int {
	return []int{-1, api.MaxOpen, api.MaxOpen + 1, 1 << 32, -1 << 32, math.MaxInt, math.MinInt}
}

func open() api.Act                     { return api.Act{Kind: api.ActOpen} }
func openStrict() api.Act               { return api.Act{Kind: api.ActOpen, N: 1} }
func putIn(n int, s string) api.Act     { return api.Act{Kind: api.ActPut, N: n, Text: s} }
func dropIn(n int, name string) api.Act { return api.Act{Kind: api.ActDrop, N: n, Name: name} }
func getIn(n int, name string) api.Act  { return api.Act{Kind: api.ActGet, N: n, Name: name} }
func askIn(n int, in ...int) api.Act    { return api.Act{Kind: api.ActAsk, N: n, In: in} }
func commitOf(n int) api.Act            { return api.Act{Kind: api.ActCommit, N: n} }
func abortOf(n int) api.Act             { return api.Act{Kind: api.ActAbort, N: n} }

// failed is a reply with a code and nothing else.
func failed(code api.Errno) api.Reply { return api.Reply{Code: code} }

// numbered is a reply with a number and nothing else.
func numbered(n int) api.Reply { return api.Reply{N: n} }

// same compares values as they are printed, which is the same for nil and empty
// lists.
func same(a, b any) bool {
	return fmt.Sprintf("%+v", a) == fmt.Sprintf("%+v", b)
}

// read builds a book of domains and tables from their texts, in the order in
// which they are given.
func read(texts ...string) api.Book {
	var b api.Book
	for _, s := range texts {
		d, x, isTable, code := text.Parse(s)
		switch {
		case code != api.OK:
			panic(s)
		case isTable:
			b.Tables = append(b.Tables, x)
		default:
			b.Domains = append(b.Domains, d)
		}
	}
	return b
}

// expect performs an action and compares the whole reply.
func expect(t *testing.T, s *Store, a api.Act, want api.Reply) {
	t.Helper()
	if got := s.Do(a); !same(got, want) {
		t.Errorf("Do(%+v) = %+v, not %+v", a, got, want)
	}
}

// perform performs actions that must succeed.
func perform(t *testing.T, s *Store, acts ...api.Act) {
	t.Helper()
	for _, a := range acts {
		if r := s.Do(a); r.Code != api.OK {
			t.Errorf("Do(%+v) = %+v", a, r)
		}
	}
}

// began returns a store whose versions have the given texts, each by one commit.
func began(t *testing.T, versions ...[]string) *Store {
	t.Helper()
	s := New()
	for i, texts := range versions {
		perform(t, s, open())
		for _, line := range texts {
			perform(t, s, putIn(0, line))
		}
		expect(t, s, commitOf(0), numbered(i+1))
	}
	return s
}

// snapshot returns all that a store shows, as text.
func snapshot(s *Store) string {
	out := fmt.Sprintf("%+v", s.States())
	for n := range api.MaxOpen {
		out += fmt.Sprintf("\n%+v", s.Session(n))
	}
	return out
}

// P6.1

func TestNew(t *testing.T) {
	s := New()
	if got := s.States(); len(got) != 1 || !same(got[0], api.Book{}) {
		t.Errorf("the versions are %+v", got)
	}
	for n := -2; n <= api.MaxOpen+2; n++ {
		if got := s.Session(n); !same(got, api.Session{}) {
			t.Errorf("session %d is %+v", n, got)
		}
	}
}

func TestStoresAreIndependent(t *testing.T) {
	s, other := New(), New()
	perform(t, s, open(), putIn(0, whole), commitOf(0), open())
	if snapshot(other) != snapshot(New()) {
		t.Errorf("another store became %s", snapshot(other))
	}
}

func TestStates(t *testing.T) {
	s := began(t, []string{whole}, []string{perfect, "domain b 1..2"}, []string{"domain a 0..5"})
	perform(t, s, open(), dropIn(0, "t"), commitOf(0))
	perform(t, s, open(), putIn(0, "domain z 1..2"))
	want := []api.Book{
		{},
		read(whole),
		read(whole, "domain b 1..2", perfect),
		read("domain a 0..5", "domain b 1..2", perfect),
		read("domain a 0..5", "domain b 1..2"),
	}
	if got := s.States(); !same(got, want) {
		t.Errorf("the versions are %+v, not %+v", got, want)
	}
}

func TestSession(t *testing.T) {
	s := began(t, []string{whole})
	perform(t, s, open(), openStrict(), open(), abortOf(2), putIn(0, perfect), dropIn(0, "q"), getIn(1, "a"))
	want := []api.Session{
		{Open: true, From: 1, Mine: read(perfect), Gone: []string{"q", "t"}},
		{Open: true, Strict: true, From: 1, Read: []string{"a"}},
		{},
		{},
	}
	for n, x := range want {
		if got := s.Session(n); !same(got, x) {
			t.Errorf("session %d is %+v, not %+v", n, got, x)
		}
	}
	for _, n := range wild() {
		if got := s.Session(n); !same(got, api.Session{}) {
			t.Errorf("session %d is %+v", n, got)
		}
	}
}

func TestNilStore(t *testing.T) {
	var s *Store
	if got := s.States(); len(got) != 0 {
		t.Errorf("the versions are %+v", got)
	}
	for _, n := range append(wild(), 0, 1, 2, 3) {
		if got := s.Session(n); !same(got, api.Session{}) {
			t.Errorf("session %d is %+v", n, got)
		}
		for kind := -1; kind <= 9; kind++ {
			expect(t, s, api.Act{Kind: kind, N: n, Name: "A", Text: "domain"}, failed(api.ErrNone))
		}
	}
	for range api.MaxActs + 1 {
		expect(t, s, open(), failed(api.ErrNone))
	}
}

func TestZeroStoreIsNew(t *testing.T) {
	var s Store
	expect(t, &s, open(), numbered(0))
	perform(t, &s, putIn(0, whole))
	expect(t, &s, commitOf(0), numbered(1))
	if got := s.States(); !same(got, []api.Book{{}, read(whole)}) {
		t.Errorf("the versions are %+v", got)
	}
}

// P6.2

// shelf is a book in which names are in increasing order.
func shelf() api.Book {
	return read("domain a 0..9", "domain c 1..2", "domain m 3..4",
		"table b first (a) { * => 1; }", "table n sum (a,c) { not 1..2|5,* => 1; *,2 => 3; }", "table z any (m) { 3 => 1; }")
}

func TestView(t *testing.T) {
	domain := func(s string) []api.Domain { return read(s).Domains }
	tables := func(texts ...string) []api.Table { return read(texts...).Tables }
	b := shelf()
	other := "table n first (a) { * => 9; }"
	cases := map[string]struct {
		x    api.Session
		want api.Book
	}{
		"nothing":           {api.Session{}, b},
		"other fields":      {api.Session{Open: true, Strict: true, From: 7, Read: []string{"", "a", "b"}}, b},
		"no such name":      {api.Session{Gone: []string{"", "q"}}, b},
		"a domain is gone":  {api.Session{Gone: []string{"c"}}, api.Book{Domains: []api.Domain{b.Domains[0], b.Domains[2]}, Tables: b.Tables}},
		"a table is gone":   {api.Session{Gone: []string{"b"}}, api.Book{Domains: b.Domains, Tables: b.Tables[1:]}},
		"several":           {api.Session{Gone: []string{"a", "m", "n", "z"}}, api.Book{Domains: b.Domains[1:2], Tables: b.Tables[:1]}},
		"not in order":      {api.Session{Gone: []string{"z", "n", "z", "m", "a"}}, api.Book{Domains: b.Domains[1:2], Tables: b.Tables[:1]}},
		"everything":        {api.Session{Gone: []string{"a", "b", "c", "m", "n", "z"}}, api.Book{}},
		"a new domain":      {api.Session{Mine: read("domain d 5..6")}, api.Book{Domains: slices.Insert(slices.Clone(b.Domains), 2, domain("domain d 5..6")...), Tables: b.Tables}},
		"another domain":    {api.Session{Mine: read("domain c 5..6")}, api.Book{Domains: []api.Domain{b.Domains[0], domain("domain c 5..6")[0], b.Domains[2]}, Tables: b.Tables}},
		"another table":     {api.Session{Mine: read(other)}, api.Book{Domains: b.Domains, Tables: []api.Table{b.Tables[0], tables(other)[0], b.Tables[2]}}},
		"gone and new":      {api.Session{Gone: []string{"n"}, Mine: read(other)}, api.Book{Domains: b.Domains, Tables: []api.Table{b.Tables[0], tables(other)[0], b.Tables[2]}}},
		"table to domain":   {api.Session{Gone: []string{"b"}, Mine: read("domain b 5..6")}, api.Book{Domains: slices.Insert(slices.Clone(b.Domains), 1, domain("domain b 5..6")...), Tables: b.Tables[1:]}},
		"domain to table":   {api.Session{Mine: read("table m first (a) { * => 9; }")}, api.Book{Domains: b.Domains[:2], Tables: slices.Insert(slices.Clone(b.Tables), 1, tables("table m first (a) { * => 9; }")...)}},
		"tables go last":    {api.Session{Mine: read("domain q 5..6", "table q first (a) { * => 9; }")}, api.Book{Domains: b.Domains, Tables: slices.Insert(slices.Clone(b.Tables), 2, tables("table q first (a) { * => 9; }")...)}},
		"the last one wins": {api.Session{Mine: read("domain c 5..6", "domain c 7..8")}, api.Book{Domains: []api.Domain{b.Domains[0], domain("domain c 7..8")[0], b.Domains[2]}, Tables: b.Tables}},
	}
	for name, c := range cases {
		if got := View(shelf(), c.x); !same(got, c.want) {
			t.Errorf("%s: %+v, not %+v", name, got, c.want)
		}
	}
	mine := api.Session{Gone: []string{"a"}, Mine: shelf()}
	if got := View(api.Book{}, mine); !same(got, shelf()) {
		t.Errorf("View of the empty book is %+v", got)
	}
}

// roomy returns a copy of l with spare capacity, in which the given elements
// stand, so that a write would show.
func roomy[E any](l []E, more ...E) []E {
	return slices.Concat(l, more)[:len(l)]
}

// roomyBook returns a copy of a book in which all lists have spare capacity.
func roomyBook(b api.Book) api.Book {
	var tables []api.Table
	for _, x := range b.Tables {
		x.Inputs = roomy(x.Inputs, "spare", "more")
		var rules []api.Rule
		for _, r := range x.Rules {
			var cells []api.Cell
			for _, c := range r.Cells {
				c.Ranges = roomy(c.Ranges, api.Range{Lo: 77, Hi: 78})
				cells = append(cells, c)
			}
			r.Cells = roomy(cells, api.Cell{Not: true})
			rules = append(rules, r)
		}
		x.Rules = roomy(rules, api.Rule{Out: 77})
		tables = append(tables, x)
	}
	return api.Book{
		Domains: roomy(b.Domains, api.Domain{Name: "spare", Lo: 7}, api.Domain{Name: "more", Lo: 8}),
		Tables:  roomy(tables, api.Table{Name: "spare"}, api.Table{Name: "more"}),
	}
}

// printed returns a book as text, with the spare capacity of all its lists.
func printed(b api.Book) string {
	s := fmt.Sprintf("%+v", b.Domains[:cap(b.Domains)])
	for _, x := range b.Tables[:cap(b.Tables)] {
		s += fmt.Sprintf("%+v %q", x, x.Inputs[:cap(x.Inputs)])
		for _, r := range x.Rules[:cap(x.Rules)] {
			s += fmt.Sprintf("%+v", r)
			for _, c := range r.Cells[:cap(r.Cells)] {
				s += fmt.Sprintf("%+v", c.Ranges[:cap(c.Ranges)])
			}
		}
	}
	return s
}

// spoil overwrites all that can be reached from a book, with the spare capacity
// of its lists.
func spoil(b api.Book) {
	for _, x := range b.Tables[:cap(b.Tables)] {
		for _, r := range x.Rules[:cap(x.Rules)] {
			for _, c := range r.Cells[:cap(r.Cells)] {
				fill(c.Ranges, api.Range{Lo: 66, Hi: -66})
			}
			fill(r.Cells, api.Cell{Not: true})
		}
		fill(x.Rules, api.Rule{Out: 66})
		fill(x.Inputs, "spoilt")
	}
	fill(b.Tables, api.Table{Name: "spoilt"})
	fill(b.Domains, api.Domain{Name: "spoilt", Lo: 66})
}

// fill overwrites all elements of l, with its spare capacity.
func fill[E any](l []E, e E) {
	l = l[:cap(l)]
	for i := range l {
		l[i] = e
	}
}

// viewed are sessions for View: ordinary ones, and others for which only
// termination is required.
func viewed() []api.Session {
	return []api.Session{
		{},
		{Gone: []string{"c", "n"}},
		{Gone: []string{"a", "n"}, Mine: read("domain a 1..2", "table n first (a,c) { 1,2 => 3; }")},
		{Mine: read("domain b 1..2", "table a first (a) { not 1..2|4 => 3; }")},
		{Gone: []string{"z", "", "b", "b"}, Mine: read("domain y 1..2", "domain b 3..4", "table x any (q) { 1 => 2; }", "table a any (q) { 1 => 2; }")},
		{Gone: []string{"\xff"}, Mine: api.Book{Domains: make([]api.Domain, 3), Tables: make([]api.Table, 3)}},
		{Gone: []string{}, Mine: api.Book{Domains: []api.Domain{}, Tables: []api.Table{{Rules: make([]api.Rule, 2), Inputs: []string{}}}}},
	}
}

func TestViewModifiesNothing(t *testing.T) {
	unordered := read("domain m 1..2", "domain a 1..2", "domain m 3..4", "table z any (a) { 1 => 2; }", "table m any (a) { 1 => 2; }")
	for _, plain := range []api.Book{{}, shelf(), unordered, {Tables: make([]api.Table, 2)}} {
		for _, x := range viewed() {
			b := roomyBook(plain)
			x.Mine, x.Gone = roomyBook(x.Mine), roomy(x.Gone, "spare", "more")
			all := func() string { return printed(b) + printed(x.Mine) + fmt.Sprintf("%q", x.Gone[:cap(x.Gone)]) }
			before := all()
			got := View(b, x)
			if after := all(); after != before {
				t.Errorf("%s became %s", before, after)
			}
			// The result is the caller's, who may write to it.
			spoil(got)
			if after := all(); after != before {
				t.Errorf("shared memory: %s became %s", before, after)
			}
		}
	}
}

func TestViewSharesNothingWithinItself(t *testing.T) {
	x := shelf().Tables[1]
	y := x
	y.Name = "y"
	got := View(api.Book{Tables: []api.Table{x}}, api.Session{Mine: api.Book{Tables: []api.Table{y}}})
	spoil(api.Book{Tables: got.Tables[:1:1]})
	if !same(got.Tables[1], y) {
		t.Errorf("the second table became %+v", got.Tables[1])
	}
}

// P6.3

func TestOpen(t *testing.T) {
	s := New()
	for n := range api.MaxOpen {
		expect(t, s, api.Act{Kind: api.ActOpen, N: n % 2}, numbered(n))
	}
	for n := range api.MaxOpen {
		if got, want := s.Session(n), (api.Session{Open: true, Strict: n%2 == 1}); !same(got, want) {
			t.Errorf("session %d is %+v, not %+v", n, got, want)
		}
	}
	expect(t, s, open(), failed(api.ErrFull))
	expect(t, s, openStrict(), failed(api.ErrFull))
	perform(t, s, abortOf(2), commitOf(1))
	expect(t, s, openStrict(), numbered(1))
	expect(t, s, open(), numbered(2))
	expect(t, s, open(), failed(api.ErrFull))
	perform(t, s, abortOf(3), abortOf(0))
	expect(t, s, open(), numbered(0))
	expect(t, s, open(), numbered(3))
}

func TestOpenBeginsWithTheLastVersion(t *testing.T) {
	s := New()
	perform(t, s, openStrict())
	for n := 1; n <= 5; n++ {
		perform(t, s, open(), putIn(1, whole))
		expect(t, s, commitOf(1), numbered(n))
		perform(t, s, open())
		if x := s.Session(1); !same(x, api.Session{Open: true, From: n}) {
			t.Errorf("session 1 is %+v after version %d", x, n)
		}
		perform(t, s, abortOf(1))
	}
	if x := s.Session(0); !same(x, api.Session{Open: true, Strict: true}) {
		t.Errorf("session 0 is %+v", x)
	}
}

// A session that is opened anew has nothing of the one before it.
func TestOpenAnew(t *testing.T) {
	for _, end := range []api.Act{abortOf(0), commitOf(0)} {
		s := began(t, []string{whole})
		perform(t, s, openStrict(), putIn(0, perfect), getIn(0, "a"), askIn(0, 3), dropIn(0, "t"), end)
		last := len(s.States()) - 1
		expect(t, s, open(), numbered(0))
		if x := s.Session(0); !same(x, api.Session{Open: true, From: last}) {
			t.Errorf("session 0 is %+v", x)
		}
	}
}

func TestOpenErrors(t *testing.T) {
	s := New()
	for _, full := range []bool{false, true} {
		before := snapshot(s)
		for _, n := range []int{-1, 2, 3, 4, 1<<32 + 1, -1 << 32, math.MaxInt, math.MinInt} {
			expect(t, s, api.Act{Kind: api.ActOpen, N: n}, failed(api.ErrRange))
		}
		if full {
			expect(t, s, open(), failed(api.ErrFull))
			expect(t, s, openStrict(), failed(api.ErrFull))
		}
		if after := snapshot(s); after != before {
			t.Errorf("%s became %s", before, after)
		}
		for range api.MaxOpen {
			s.Do(open())
		}
	}
}

// otherKinds are all kinds of actions except ActOpen.
func otherKinds() []int {
	return []int{api.ActPut, api.ActDrop, api.ActGet, api.ActAsk, api.ActCommit, api.ActAbort}
}

// Whether the session is open matters more than what else is wrong.
func TestSessionsThatAreNotOpen(t *testing.T) {
	s := New()
	perform(t, s, open(), open(), open(), abortOf(1))
	before := snapshot(s)
	for _, n := range append(wild(), 1, 3) {
		for _, kind := range otherKinds() {
			expect(t, s, api.Act{Kind: kind, N: n, Name: "a", Text: whole}, failed(api.ErrNone))
			expect(t, s, api.Act{Kind: kind, N: n, Name: "A", Text: "domain", In: []int{1}}, failed(api.ErrNone))
		}
	}
	if after := snapshot(s); after != before {
		t.Errorf("%s became %s", before, after)
	}
}

func TestUnknownKinds(t *testing.T) {
	s := New()
	perform(t, s, open())
	before := snapshot(s)
	for _, kind := range []int{0, -1, 8, 9, -7, 1<<32 + 1, math.MaxInt, math.MinInt} {
		for _, n := range append(wild(), 0, 1) {
			expect(t, s, api.Act{Kind: kind, N: n, Name: "a", Text: whole}, failed(api.ErrKind))
		}
	}
	if after := snapshot(s); after != before {
		t.Errorf("%s became %s", before, after)
	}
}

// Actions count whatever their replies are, and beyond the limit nothing
// happens any more.
func TestMaxActs(t *testing.T) {
	fillers := map[string]api.Act{
		"that succeed":     getIn(0, "a"),
		"of unknown kinds": {},
		"out of range":     {Kind: api.ActOpen, N: 5},
		"of no session":    commitOf(3),
		"without a form":   putIn(0, "domain"),
	}
	for name, filler := range fillers {
		s := New()
		perform(t, s, open(), putIn(0, whole))
		for range api.MaxActs - 3 {
			s.Do(filler)
		}
		expect(t, s, getIn(0, "a"), api.Reply{Text: whole})
		before := snapshot(s)
		for _, a := range []api.Act{
			open(), {Kind: api.ActOpen, N: 5}, putIn(0, perfect), dropIn(0, "a"), getIn(0, "q"), askIn(0, 3), commitOf(0), abortOf(0), {}, {Kind: 8},
			commitOf(-1), getIn(0, "A"),
		} {
			expect(t, s, a, failed(api.ErrFull))
		}
		if after := snapshot(s); after != before {
			t.Errorf("%s: %s became %s", name, before, after)
		}
	}
}

// P6.4

func TestPut(t *testing.T) {
	s := began(t, []string{whole, perfect})
	perform(t, s, open())
	steps := []struct {
		text string
		mine api.Book
		gone []string
	}{
		{"domain m 1..2", read("domain m 1..2"), []string{"m"}},
		{" domain\nc 3..3 ", read("domain c 3..3", "domain m 1..2"), []string{"c", "m"}},
		{"table k any(c){3=>1;}", read("domain c 3..3", "domain m 1..2", "table k any (c) { 3 => 1; }"), []string{"c", "k", "m"}},
		{"domain c 4..5", read("domain c 4..5", "domain m 1..2", "table k any (c) { 3 => 1; }"), []string{"c", "k", "m"}},
		{"domain k 4..5", read("domain c 4..5", "domain k 4..5", "domain m 1..2"), []string{"c", "k", "m"}},
		{"table c any(q){3=>1;}", read("domain k 4..5", "domain m 1..2", "table c any (q) { 3 => 1; }"), []string{"c", "k", "m"}},
		{"table b sum(q){*=>0;}", read("domain k 4..5", "domain m 1..2", "table b sum (q) { * => 0; }", "table c any (q) { 3 => 1; }"), []string{"b", "c", "k", "m"}},
		{"domain a 0..9", read("domain a 0..9", "domain k 4..5", "domain m 1..2", "table b sum (q) { * => 0; }", "table c any (q) { 3 => 1; }"),
			[]string{"a", "b", "c", "k", "m"}},
	}
	for _, step := range steps {
		// Name has no meaning here.
		expect(t, s, api.Act{Kind: api.ActPut, Text: step.text, Name: "ignored"}, api.Reply{})
		if got, want := s.Session(0), (api.Session{Open: true, From: 1, Mine: step.mine, Gone: step.gone}); !same(got, want) {
			t.Errorf("after %q session 0 is %+v, not %+v", step.text, got, want)
		}
	}
}

func TestPutErrors(t *testing.T) {
	s := New()
	perform(t, s, open(), putIn(0, whole), getIn(0, "a"))
	before := snapshot(s)
	for _, x := range []string{
		"", " ", "a", "domain a", "domain A 0..9", "domain a 9..0", "domain a 0..1000001", "domain abcdefghi 0..1", whole + whole,
		"table t first (a) { }", "table t first (a,a) { *,* => 1; }", "table t last (a) { * => 1; }", whole + strings.Repeat("x", api.MaxSource-len(whole)),
	} {
		expect(t, s, putIn(0, x), failed(api.ErrForm))
	}
	for _, x := range []string{whole + strings.Repeat(" ", api.MaxSource+1-len(whole)), strings.Repeat("x", api.MaxSource+1)} {
		expect(t, s, putIn(0, x), failed(api.ErrLong))
	}
	if after := snapshot(s); after != before {
		t.Errorf("%s became %s", before, after)
	}
	expect(t, s, putIn(0, whole+strings.Repeat(" ", api.MaxSource-len(whole))), api.Reply{})
}

// A session may put what a commit would refuse, and more than fits into a book.
func TestPutWithoutCheck(t *testing.T) {
	s := New()
	perform(t, s, open())
	var names []string
	for c := 'a'; c <= 'z'; c++ {
		perform(t, s, putIn(0, "domain d"+string(c)+" 1..2"), putIn(0, "table t"+string(c)+" unique (x) { * => 1; * => 2; }"))
		names = append(names, "d"+string(c), "t"+string(c))
	}
	slices.Sort(names)
	x := s.Session(0)
	if len(x.Mine.Domains) != 26 || len(x.Mine.Tables) != 26 || !slices.Equal(x.Gone, names) {
		t.Errorf("session 0 is %+v", x)
	}
}

func TestDrop(t *testing.T) {
	s := began(t, []string{whole, perfect})
	perform(t, s, open(), putIn(0, "domain m 1..2"), putIn(0, "table k any (m) { 1 => 1; }"))
	steps := []struct {
		name string
		mine api.Book
		gone []string
	}{
		{"t", read("domain m 1..2", "table k any (m) { 1 => 1; }"), []string{"k", "m", "t"}},
		{"m", read("table k any (m) { 1 => 1; }"), []string{"k", "m", "t"}},
		{"q", read("table k any (m) { 1 => 1; }"), []string{"k", "m", "q", "t"}},
		{"k", api.Book{}, []string{"k", "m", "q", "t"}},
		{"t", api.Book{}, []string{"k", "m", "q", "t"}},
		{"abcdefgh", api.Book{}, []string{"abcdefgh", "k", "m", "q", "t"}},
	}
	for _, step := range steps {
		// Text has no meaning here.
		expect(t, s, api.Act{Kind: api.ActDrop, Name: step.name, Text: whole}, api.Reply{})
		if got, want := s.Session(0), (api.Session{Open: true, From: 1, Mine: step.mine, Gone: step.gone}); !same(got, want) {
			t.Errorf("without %q session 0 is %+v, not %+v", step.name, got, want)
		}
	}
}

func TestNamesThatAreNotNames(t *testing.T) {
	s := New()
	perform(t, s, openStrict(), putIn(0, whole), getIn(0, "a"))
	before := snapshot(s)
	for _, name := range []string{"", "A", "a1", "a b", " a", "a\n", "abcdefghi", "ä", "\xff", "*", strings.Repeat("a", 5000)} {
		expect(t, s, dropIn(0, name), failed(api.ErrForm))
		expect(t, s, getIn(0, name), failed(api.ErrForm))
	}
	if after := snapshot(s); after != before {
		t.Errorf("%s became %s", before, after)
	}
}

// P6.5

func TestGet(t *testing.T) {
	s := began(t, []string{whole, perfect})
	perform(t, s, open(), openStrict())
	perform(t, s, putIn(0, " domain b  1..2"), putIn(0, "table a sum(b){1=>1;}"), dropIn(0, "t"))
	perform(t, s, open(), putIn(2, "domain z 1..2"), putIn(2, "domain a 0..8"), dropIn(2, "t"), commitOf(2))
	steps := []struct {
		n    int
		name string
		want api.Reply
		read []string
	}{
		{0, "t", failed(api.ErrNone), []string{"t"}},
		{0, "b", api.Reply{Text: "domain b 1..2\n"}, []string{"b", "t"}},
		{0, "a", api.Reply{Text: "table a sum (b) {\n  1 => 1;\n}\n"}, []string{"a", "b", "t"}},
		{0, "b", api.Reply{Text: "domain b 1..2\n"}, []string{"a", "b", "t"}},
		{0, "z", failed(api.ErrNone), []string{"a", "b", "t", "z"}},
		{1, "t", api.Reply{Text: perfect}, []string{"t"}},
		{1, "a", api.Reply{Text: whole}, []string{"a", "t"}},
		{1, "b", failed(api.ErrNone), []string{"a", "b", "t"}},
		{1, "z", failed(api.ErrNone), []string{"a", "b", "t", "z"}},
		{1, "abcdefgh", failed(api.ErrNone), []string{"a", "abcdefgh", "b", "t", "z"}},
	}
	for _, step := range steps {
		want := s.Session(step.n)
		want.Read = step.read
		expect(t, s, getIn(step.n, step.name), step.want)
		if got := s.Session(step.n); !same(got, want) {
			t.Errorf("session %d is %+v, not %+v", step.n, got, want)
		}
	}
}

// P6.6

func TestAsk(t *testing.T) {
	for _, strict := range []bool{false, true} {
		s := began(t, []string{whole, perfect})
		first, all := open(), []string{"a", "b", "s", "t"}
		if strict {
			first, all = openStrict(), []string{"", "a", "b", "s", "t"}
		}
		perform(t, s, first)
		expect(t, s, askIn(0, 7), api.Reply{Answers: []api.Answer{{Name: "t", Found: true, N: 2}}})
		without := slices.DeleteFunc(slices.Clone(all), func(name string) bool { return name == "b" || name == "s" })
		if x := s.Session(0); !same(x.Read, without) {
			t.Errorf("read: %q, not %q", x.Read, without)
		}
		// What the session has dropped and what it has put are both recorded, and
		// what another one has put is not.
		perform(t, s, open(), putIn(1, "domain z 1..2"), putIn(1, "domain a 0..8"), commitOf(1))
		perform(t, s, dropIn(0, "t"), putIn(0, "domain b 5..6"), putIn(0, "table s sum (a,b) { 7,* => 10; *,6 => 1; }"))
		want := s.Session(0)
		want.Read = all
		expect(t, s, askIn(0, 9, 6), api.Reply{Answers: []api.Answer{{Name: "s", Found: true, N: 1}}})
		expect(t, s, askIn(0, 9, 5), api.Reply{Answers: []api.Answer{{Name: "s"}}})
		if got := s.Session(0); !same(got, want) {
			t.Errorf("session 0 is %+v, not %+v", got, want)
		}
	}
}

// A name that the session has dropped before it asks is recorded too.
func TestAskWithoutWhatIsDropped(t *testing.T) {
	s := began(t, []string{whole, perfect})
	perform(t, s, open(), dropIn(0, "t"), askIn(0, 3))
	if x := s.Session(0); !slices.Equal(x.Read, []string{"a", "t"}) {
		t.Errorf("read: %q", x.Read)
	}
}

func TestAskTheEmptyBook(t *testing.T) {
	s := New()
	perform(t, s, open(), openStrict())
	expect(t, s, askIn(0), api.Reply{})
	expect(t, s, askIn(1), api.Reply{})
	expect(t, s, askIn(0, 1), failed(api.ErrForm))
	if x := s.Session(0); len(x.Read) != 0 {
		t.Errorf("read: %q", x.Read)
	}
	if x := s.Session(1); !slices.Equal(x.Read, []string{""}) {
		t.Errorf("read: %q", x.Read)
	}
}

// With an error the names are recorded nevertheless, and neither a name nor an
// input is in the reply.
func TestAskErrors(t *testing.T) {
	cases := []struct {
		text string
		in   []int
		want api.Errno
	}{
		{whole, nil, api.ErrForm},
		{whole, []int{1, 2}, api.ErrForm},
		{whole, []int{10}, api.ErrRange},
		{whole, []int{math.MinInt}, api.ErrRange},
		{"table u first (x) { * => 1; }", []int{1}, api.ErrNone},
		{"table u first (u) { * => 1; }", []int{1}, api.ErrRing},
		{"table u unique (a) { 1..3 => 1; 3 => 1; }", []int{1}, api.ErrClash},
		{"table u first complete (a) { 1..9 => 1; }", []int{1}, api.ErrGap},
		{"table u first complete (a) { 1..9 => 1; }", nil, api.ErrGap},
	}
	for _, c := range cases {
		s := began(t, []string{whole, perfect})
		perform(t, s, openStrict(), putIn(0, c.text))
		expect(t, s, askIn(0, c.in...), failed(c.want))
		want := []string{"", "a", "t"}
		if strings.HasPrefix(c.text, "table u") {
			want = append(want, "u")
		}
		if x := s.Session(0); !x.Open || !slices.Equal(x.Read, want) {
			t.Errorf("%q: session 0 is %+v", c.text, x)
		}
	}
	s := New()
	perform(t, s, open())
	for _, name := range []string{"a", "b", "c", "d", "e"} {
		perform(t, s, putIn(0, "domain "+name+" 0..1"))
	}
	expect(t, s, askIn(0, 0, 0, 0, 0, 0), failed(api.ErrFull))
	if x := s.Session(0); !slices.Equal(x.Read, []string{"a", "b", "c", "d", "e"}) {
		t.Errorf("session 0 is %+v", x)
	}
}

// P6.9

func TestRun(t *testing.T) {
	acts := []api.Act{
		open(), openStrict(), putIn(0, whole), putIn(0, perfect), {}, commitOf(0), getIn(1, "a"), open(), askIn(0, 3), commitOf(1), commitOf(1), putIn(0, "x"),
	}
	want := []api.Reply{
		{}, {N: 1}, {}, {}, failed(api.ErrKind), {N: 1}, failed(api.ErrNone), {}, {Answers: []api.Answer{{Name: "t", Found: true, N: 1}}},
		{Code: api.ErrOld, Text: "a"}, failed(api.ErrNone), failed(api.ErrForm),
	}
	// Every run has a store of its own.
	for range 2 {
		if got, code := Run(acts); code != api.OK || !same(got, want) {
			t.Errorf("%+v, %d, not %+v", got, code, want)
		}
	}
}

func TestRunLimits(t *testing.T) {
	for _, l := range [][]api.Act{nil, {}} {
		if got, code := Run(l); len(got) != 0 || code != api.OK {
			t.Errorf("no actions: %+v, %d", got, code)
		}
	}
	for _, n := range []int{1, api.MaxActs - 1, api.MaxActs} {
		got, code := Run(slices.Repeat([]api.Act{{Kind: 9}}, n))
		if code != api.OK || !same(got, slices.Repeat([]api.Reply{failed(api.ErrKind)}, n)) {
			t.Errorf("%d actions: %+v, %d", n, got, code)
		}
	}
	for _, n := range []int{api.MaxActs + 1, 10 * api.MaxActs} {
		if got, code := Run(slices.Repeat([]api.Act{open()}, n)); len(got) != 0 || code != api.ErrFull {
			t.Errorf("%d actions: %+v, %d", n, got, code)
		}
	}
}

// What holds everywhere

// What a caller does with the results and with the arguments does not change
// the store.
func TestResultsBelongToTheCaller(t *testing.T) {
	s := began(t, []string{whole, "domain b 0..1", "table s sum (a,b) { not 1..2|5,* => 1; *,1 => 3; }", perfect})
	perform(t, s, openStrict(), open(), putIn(0, "table u any (a) { not 1..2|5 => 1; }"), putIn(0, "domain c 1..2"), dropIn(0, "s"), getIn(0, "a"))
	in := roomy([]int{3, 1}, 9, 9)
	for range 3 {
		before := snapshot(s)
		for _, b := range s.States() {
			spoil(b)
		}
		for n := range api.MaxOpen {
			x := s.Session(n)
			spoil(x.Mine)
			fill(x.Gone, "spoilt")
			fill(x.Read, "spoilt")
		}
		fill(s.States(), api.Book{Domains: make([]api.Domain, 1)})
		if after := snapshot(s); after != before {
			t.Fatalf("%s became %s", before, after)
		}
		want := api.Reply{Answers: []api.Answer{{Name: "s", Found: true, N: 4}, {Name: "t", Found: true, N: 1}}}
		got := s.Do(api.Act{Kind: api.ActAsk, N: 1, In: in})
		if !same(got, want) || !slices.Equal(in[:cap(in)][:4], []int{3, 1, 9, 9}) {
			t.Errorf("%+v, with %v", got, in[:cap(in)])
		}
		fill(got.Answers, api.Answer{Name: "spoilt"})
		// The next round looks at the store with more names in its lists.
		perform(t, s, putIn(0, "domain d 1..2"), dropIn(0, "zz"), getIn(0, "b"))
	}
}

func TestRunModifiesNothing(t *testing.T) {
	acts := roomy([]api.Act{open(), putIn(0, whole), askIn(0, 3), commitOf(0)}, api.Act{Kind: 77})
	acts[2].In = roomy(acts[2].In, 88)
	all := func() string { return fmt.Sprintf("%+v %v", acts[:cap(acts)], acts[2].In[:cap(acts[2].In)]) }
	before := all()
	if _, code := Run(acts); code != api.OK || all() != before {
		t.Errorf("%s became %s", before, all())
	}
}

// A version stays as it is, whatever happens later.
func TestVersionsStay(t *testing.T) {
	s := began(t, []string{whole, perfect})
	perform(t, s, open())
	first := fmt.Sprintf("%+v", s.States()[1])
	perform(t, s, open(), putIn(1, "domain a 3..5"), putIn(1, "table t first (a) { * => 3; }"), commitOf(1), open(), dropIn(1, "t"), commitOf(1))
	if now := fmt.Sprintf("%+v", s.States()[1]); now != first {
		t.Errorf("%s became %s", first, now)
	}
	expect(t, s, getIn(0, "t"), api.Reply{Text: perfect})
	if got := book.Show(s.States()[3], "a"); got != "domain a 3..5\n" {
		t.Errorf("a is %q", got)
	}
}
