package store

import (
	"maps"
	"slices"
	"strconv"
	"testing"

	"ratebook/api"
	"ratebook/book"
	"ratebook/text"
)

// old is the reply to a commit that is refused because of a changed name.
func old(name string) api.Reply { return api.Reply{Code: api.ErrOld, Text: name} }

// flat returns a table with the given name, which gives a number for every a.
func flat(name string, out int) string {
	return "table " + name + " first (a) { * => " + strconv.Itoa(out) + "; }"
}

// expectClosed expects that session n is closed.
func expectClosed(t *testing.T, s *Store, n int) {
	t.Helper()
	if x := s.Session(n); !same(x, api.Session{}) {
		t.Errorf("session %d is %+v", n, x)
	}
	expect(t, s, getIn(n, "a"), failed(api.ErrNone))
}

// P6.7

func TestAbort(t *testing.T) {
	s := began(t, []string{whole, perfect})
	before := snapshot(s)
	perform(t, s, openStrict(), putIn(0, "domain b 1..2"), dropIn(0, "t"), getIn(0, "a"), askIn(0, 3, 1))
	expect(t, s, abortOf(0), api.Reply{})
	if after := snapshot(s); after != before {
		t.Errorf("%s became %s", before, after)
	}
	expectClosed(t, s, 0)
	expect(t, s, abortOf(0), failed(api.ErrNone))
}

// Only the session that is named ends.
func TestEndOfOneSession(t *testing.T) {
	for _, end := range []api.Act{abortOf(1), commitOf(1)} {
		s := New()
		perform(t, s, open(), open(), open(), putIn(0, whole), putIn(2, "domain b 1..2"))
		first, third := s.Session(0), s.Session(2)
		perform(t, s, end)
		expectClosed(t, s, 1)
		if !same(s.Session(0), first) || !same(s.Session(2), third) {
			t.Errorf("after %+v: %+v and %+v", end, s.Session(0), s.Session(2))
		}
	}
}

func TestCommitClosesAlways(t *testing.T) {
	cases := map[string]struct {
		acts []api.Act
		want api.Errno
	}{
		"nothing to do": {nil, api.OK},
		"a new version": {[]api.Act{putIn(0, "domain b 1..2")}, api.OK},
		"a gap":         {[]api.Act{putIn(0, "domain a 0..10")}, api.ErrGap},
		"a change":      {[]api.Act{putIn(0, flat("t", 1)), open(), putIn(1, flat("t", 2)), commitOf(1)}, api.ErrOld},
	}
	for name, c := range cases {
		s := began(t, []string{whole, perfect})
		perform(t, s, open())
		perform(t, s, c.acts...)
		if r := s.Do(commitOf(0)); r.Code != c.want {
			t.Errorf("%s: %+v", name, r)
		}
		expectClosed(t, s, 0)
		expect(t, s, commitOf(0), failed(api.ErrNone))
	}
}

// The examples of the document.
func TestCommitExamples(t *testing.T) {
	s := began(t, []string{whole})
	refused := func(line string, want api.Reply) {
		t.Helper()
		perform(t, s, open(), putIn(0, line))
		expect(t, s, commitOf(0), want)
	}
	refused("table t unique complete (a) { 0..4 => 1; 6..9 => 2; }", api.Reply{Code: api.ErrGap, Text: "t", At: []int{5}})
	refused("table t unique complete (a) { 0..4 => 1; 4..9 => 2; }", api.Reply{Code: api.ErrClash, Text: "t", At: []int{4}})
	refused("table t unique complete (a) { 0..4 => 1; 5..9 => 2; }", numbered(2))

	perform(t, s, open(), open(), putIn(0, flat("t", 5)), putIn(1, flat("t", 6)))
	expect(t, s, commitOf(1), numbered(3))
	expect(t, s, commitOf(0), old("t"))

	perform(t, s, openStrict(), askIn(0, 3), open(), putIn(1, "domain a 0..8"))
	expect(t, s, commitOf(1), numbered(4))
	expect(t, s, commitOf(0), old("a"))
}

// race is what a session does, what others do before it commits (each list is a
// commit of its own), and the name for which its commit is refused, which is
// empty if it is not.
type race struct {
	strict bool
	own    []api.Act
	others [][]string
	want   string
}

// races are races in a book with the domains a and b and the tables s and t.
func races() map[string]race {
	one := func(texts ...string) [][]string { return [][]string{texts} }
	acts := func(l ...api.Act) []api.Act { return l }
	return map[string]race{
		"nothing written or read":         {true, nil, one(flat("t", 2)), ""},
		"another name":                    {true, acts(putIn(0, flat("s", 2)), getIn(0, "s")), one(flat("t", 2)), ""},
		"the same put":                    {false, acts(putIn(0, flat("t", 2))), one(flat("t", 2)), "t"},
		"put what is new":                 {false, acts(putIn(0, flat("u", 2))), one(flat("u", 3)), "u"},
		"put what is dropped":             {false, acts(putIn(0, flat("t", 2))), one("-t"), "t"},
		"drop what is put":                {false, acts(dropIn(0, "t")), one(flat("t", 2)), "t"},
		"drop what is dropped":            {false, acts(dropIn(0, "t")), one("-t"), "t"},
		"drop what is new":                {false, acts(dropIn(0, "u")), one(flat("u", 2)), "u"},
		"put and drop what is put":        {false, acts(putIn(0, flat("t", 2)), dropIn(0, "t")), one(flat("t", 2)), "t"},
		"a domain":                        {false, acts(putIn(0, "domain b 1..5")), one("domain b 1..6"), "b"},
		"a domain becomes a table":        {false, acts(dropIn(0, "b")), one(flat("b", 1)), "b"},
		"a table becomes a domain":        {false, acts(dropIn(0, "t")), one("domain t 1..2"), "t"},
		"put again as it is":              {false, acts(putIn(0, flat("t", 2))), one(flat("t", 1)), ""},
		"put as it is in another form":    {false, acts(putIn(0, flat("t", 2))), one("table t first(a){*=>1;}"), ""},
		"drop what is not there":          {false, acts(putIn(0, flat("u", 2))), one("-u"), ""},
		"the first of several":            {false, acts(dropIn(0, "t"), dropIn(0, "b"), dropIn(0, "s")), one(flat("t", 2), flat("s", 2)), "s"},
		"the first of several commits":    {false, acts(dropIn(0, "t"), dropIn(0, "s")), [][]string{{flat("t", 2)}, {flat("s", 2)}}, "s"},
		"changed and changed back":        {false, acts(putIn(0, flat("t", 2))), [][]string{{flat("t", 2)}, {flat("t", 1)}}, "t"},
		"dropped and put back":            {false, acts(putIn(0, flat("t", 2))), [][]string{{"-t"}, {flat("t", 1)}}, "t"},
		"put and dropped":                 {false, acts(putIn(0, flat("u", 2))), [][]string{{flat("u", 2)}, {"-u"}}, "u"},
		"changed in an early version":     {false, acts(putIn(0, flat("t", 2))), [][]string{{flat("t", 2)}, {flat("s", 2)}, {flat("s", 3)}}, "t"},
		"read, but not strict":            {false, acts(getIn(0, "t"), getIn(0, "a")), one(flat("t", 2)), ""},
		"asked, but not strict":           {false, acts(askIn(0, 3, 1)), one(flat("t", 2), "domain b 1..5"), ""},
		"asked and put, not strict":       {false, acts(askIn(0, 3, 1), putIn(0, flat("s", 2))), one(flat("t", 2)), ""},
		"read, and strict":                {true, acts(getIn(0, "t"), putIn(0, flat("s", 2))), one(flat("t", 2)), "t"},
		"only read, and strict":           {true, acts(getIn(0, "t")), one(flat("t", 2)), "t"},
		"read something else":             {true, acts(getIn(0, "s"), getIn(0, "a")), one(flat("t", 2)), ""},
		"looked for what is new":          {true, acts(getIn(0, "u")), one(flat("u", 2)), "u"},
		"read what is dropped":            {true, acts(getIn(0, "t")), one("-t"), "t"},
		"read, changed and changed back":  {true, acts(getIn(0, "t")), [][]string{{flat("t", 2)}, {flat("t", 1)}}, "t"},
		"read, and put as it is":          {true, acts(getIn(0, "t")), one(flat("t", 1)), ""},
		"read what it has put itself":     {true, acts(putIn(0, flat("t", 3)), getIn(0, "t")), one(flat("s", 2)), ""},
		"the first of written and read":   {true, acts(putIn(0, flat("s", 2)), getIn(0, "t")), one(flat("t", 2), flat("s", 3)), "s"},
		"the first of read and written":   {true, acts(getIn(0, "s"), putIn(0, flat("t", 2))), one(flat("t", 3), flat("s", 3)), "s"},
		"asked, and a table is changed":   {true, acts(askIn(0, 3, 1)), one(flat("t", 2)), "t"},
		"asked, and a domain is changed":  {true, acts(askIn(0, 3, 1)), one("domain b 1..5"), "b"},
		"asked, and a name is new":        {true, acts(askIn(0, 3, 1)), one(flat("u", 2)), "u"},
		"asked, and the first is new":     {true, acts(askIn(0, 3, 1), putIn(0, flat("s", 2))), one(flat("aa", 2), flat("s", 3)), "aa"},
		"asked, and a name is dropped":    {true, acts(askIn(0, 3, 1)), one("-t"), "t"},
		"asked, and put as it is":         {true, acts(askIn(0, 3, 1)), one(flat("t", 1)), ""},
		"asked in vain":                   {true, acts(getIn(0, "u"), askIn(0, 77)), one(flat("x", 2)), "x"},
		"asked, and came and went":        {true, acts(askIn(0, 3, 1)), [][]string{{flat("u", 2)}, {"-u"}}, "u"},
		"asked without what it drops":     {true, acts(dropIn(0, "t"), askIn(0, 3, 1)), one(flat("t", 2)), "t"},
		"not strict, asked, first is new": {false, acts(askIn(0, 3, 1), putIn(0, flat("s", 2))), one(flat("aa", 2), flat("s", 3)), "s"},
	}
}

// change performs a commit of puts, and of drops of the names behind a minus.
func change(t *testing.T, s *Store, texts []string) {
	t.Helper()
	n := s.Do(open()).N
	for _, line := range texts {
		if line[0] == '-' {
			perform(t, s, dropIn(n, line[1:]))
		} else {
			perform(t, s, putIn(n, line))
		}
	}
	perform(t, s, commitOf(n))
}

func TestChangedNames(t *testing.T) {
	for name, c := range races() {
		// Changes before the session began do not count.
		s := began(t, []string{whole, "domain b 1..4", flat("s", 7), flat("t", 7), flat("u", 7)}, []string{flat("s", 1), flat("t", 1)})
		change(t, s, []string{"-u"})
		first := open()
		if c.strict {
			first = openStrict()
		}
		perform(t, s, first)
		for _, a := range c.own {
			s.Do(a)
		}
		for _, texts := range c.others {
			change(t, s, texts)
		}
		states := s.States()
		got := s.Do(commitOf(0))
		if c.want != "" && !same(got, old(c.want)) || c.want == "" && got.Code != api.OK {
			t.Errorf("%s: %+v", name, got)
		}
		if c.want != "" && !same(s.States(), states) {
			t.Errorf("%s: the versions became %+v", name, s.States())
		}
		expectClosed(t, s, 0)
	}
}

// A session that begins with the last version is not disturbed by itself, nor by
// one that is still open or was given up.
func TestSessionsInTurn(t *testing.T) {
	s := began(t, []string{whole})
	for n := 2; n < 9; n++ {
		perform(t, s, open(), openStrict(), putIn(0, flat("t", n)), putIn(1, flat("t", n)), getIn(1, "t"), askIn(1, 3))
		if n%2 == 0 {
			perform(t, s, abortOf(0))
		}
		expect(t, s, commitOf(1), numbered(n))
		if n%2 != 0 {
			expect(t, s, commitOf(0), old("t"))
		}
	}
}

// P6.8

func TestCommitOfNothing(t *testing.T) {
	s := New()
	for n := range 4 {
		before := snapshot(s)
		perform(t, s, openStrict())
		s.Do(getIn(0, "a"))
		s.Do(askIn(0, 3))
		expect(t, s, commitOf(0), numbered(n))
		perform(t, s, open())
		expect(t, s, commitOf(0), numbered(n))
		if after := snapshot(s); after != before {
			t.Errorf("%s became %s", before, after)
		}
		change(t, s, []string{"domain a 0.." + strconv.Itoa(9-n)})
	}
	// The number is that of the last version, not of the one that it began with.
	perform(t, s, open())
	change(t, s, []string{"domain b 1..2"})
	expect(t, s, commitOf(0), numbered(5))
}

func TestCommit(t *testing.T) {
	s := began(t, []string{whole, perfect})
	perform(t, s, open(), putIn(0, "domain c 1..2"), putIn(0, "table b sum (a,c) { 3,* => 1; }"), dropIn(0, "t"))
	expect(t, s, commitOf(0), numbered(2))
	want := read(whole, "domain c 1..2", "table b sum (a,c) { 3,* => 1; }")
	if got := s.States(); len(got) != 3 || !same(got[2], want) {
		t.Errorf("the versions are %+v", got)
	}
}

// A commit is a version of its own even if nothing is different.
func TestCommitOfTheSame(t *testing.T) {
	s := began(t, []string{whole}, []string{whole})
	perform(t, s, open(), dropIn(0, "q"))
	expect(t, s, commitOf(0), numbered(3))
	perform(t, s, open(), putIn(0, "domain q 1..2"), dropIn(0, "q"))
	expect(t, s, commitOf(0), numbered(4))
	if got := s.States(); !same(got, []api.Book{{}, read(whole), read(whole), read(whole), read(whole)}) {
		t.Errorf("the versions are %+v", got)
	}
}

// The changes are applied to the last version, not to the one with which the
// session began.
func TestCommitKeepsWhatOthersWrote(t *testing.T) {
	s := began(t, []string{whole, flat("t", 1), flat("u", 1)})
	perform(t, s, open(), open(), putIn(0, flat("s", 2)), dropIn(0, "u"), putIn(1, flat("t", 3)), putIn(1, "domain b 1..2"))
	expect(t, s, commitOf(0), numbered(2))
	expect(t, s, commitOf(1), numbered(3))
	if got, want := s.States()[3], read(whole, "domain b 1..2", flat("s", 2), flat("t", 3)); !same(got, want) {
		t.Errorf("the last version is %+v, not %+v", got, want)
	}
}

// What is good in the book that a session sees may not be good in the last
// version, and the other way round.
func TestCommitChecksTheLastVersion(t *testing.T) {
	s := began(t, []string{whole})
	perform(t, s, open(), putIn(0, perfect))
	perform(t, s, open(), putIn(1, "domain a 0..10"))
	expect(t, s, askIn(0, 3), api.Reply{Answers: []api.Answer{{Name: "t", Found: true, N: 1}}})
	expect(t, s, commitOf(1), numbered(2))
	expect(t, s, commitOf(0), api.Reply{Code: api.ErrGap, Text: "t", At: []int{10}})

	perform(t, s, open(), putIn(0, flat("t", 1)), putIn(0, "table u first (b) { * => 1; }"))
	expect(t, s, askIn(0, 3), failed(api.ErrNone))
	change(t, s, []string{"domain b 1..2"})
	expect(t, s, commitOf(0), numbered(4))
}

func TestCommitRefused(t *testing.T) {
	cases := []struct {
		acts []api.Act
		want api.Reply
	}{
		{[]api.Act{putIn(0, "domain a 0..10")}, api.Reply{Code: api.ErrGap, Text: "t", At: []int{10}}},
		{[]api.Act{putIn(0, "domain a -3..10")}, api.Reply{Code: api.ErrGap, Text: "t", At: []int{-3}}},
		{[]api.Act{putIn(0, "table s any (a,t) { 3..5,* => 1; *,2 => 2; }")}, api.Reply{Code: api.ErrClash, Text: "s", At: []int{3, 2}}},
		{[]api.Act{dropIn(0, "a")}, api.Reply{Code: api.ErrNone, Text: "t"}},
		{[]api.Act{putIn(0, "table u sum (a,q) { *,* => 1; }")}, api.Reply{Code: api.ErrNone, Text: "u"}},
		{[]api.Act{putIn(0, "table a first (a) { * => 1; }")}, failed(api.ErrRing)},
		{[]api.Act{putIn(0, "table u first (v) { * => 1; }"), putIn(0, "table v first (u) { * => 1; }")}, failed(api.ErrRing)},
		{[]api.Act{putIn(0, "domain b 1..2"), putIn(0, "domain c 1..2"), putIn(0, "domain d 1..2"), putIn(0, "domain e 1..2")}, failed(api.ErrFull)},
		{[]api.Act{putIn(0, flat("b", 1)), putIn(0, flat("c", 1)), putIn(0, flat("d", 1)), putIn(0, flat("e", 1))}, failed(api.ErrFull)},
	}
	for _, c := range cases {
		s := began(t, []string{whole, perfect})
		before := snapshot(s)
		perform(t, s, open())
		perform(t, s, c.acts...)
		expect(t, s, commitOf(0), c.want)
		if after := snapshot(s); after != before {
			t.Errorf("%s became %s", before, after)
		}
		// What was refused is not a change.
		perform(t, s, openStrict(), askIn(0, 3))
		expect(t, s, commitOf(0), numbered(1))
	}
}

// The input of a reply is the caller's.
func TestRefusedInputs(t *testing.T) {
	s := began(t, []string{whole, perfect})
	for range 3 {
		perform(t, s, open(), putIn(0, "domain a 0..10"))
		got := s.Do(commitOf(0))
		if !same(got, api.Reply{Code: api.ErrGap, Text: "t", At: []int{10}}) {
			t.Errorf("%+v", got)
		}
		fill(got.At, 66)
	}
}

func TestMaxStates(t *testing.T) {
	s := New()
	perform(t, s, openStrict(), askIn(0), open(), putIn(1, "domain a 0..1"))
	for n := 1; n < api.MaxStates; n++ {
		if len(s.States()) != n {
			t.Fatalf("%d versions, not %d", len(s.States()), n)
		}
		perform(t, s, open(), putIn(2, "domain a 0.."+strconv.Itoa(n)))
		expect(t, s, commitOf(2), numbered(n))
	}
	states := s.States()
	if len(states) != api.MaxStates {
		t.Errorf("%d versions", len(states))
	}
	// That there is no room matters more than what Check would say, and less than
	// changed names.
	perform(t, s, open(), putIn(2, "domain b 1..2"))
	expect(t, s, commitOf(2), failed(api.ErrFull))
	perform(t, s, open(), dropIn(2, "q"))
	expect(t, s, commitOf(2), failed(api.ErrFull))
	perform(t, s, open(), putIn(2, "table t first (q) { * => 1; }"))
	expect(t, s, commitOf(2), failed(api.ErrFull))
	expectClosed(t, s, 2)
	expect(t, s, commitOf(1), old("a"))
	expect(t, s, commitOf(0), old("a"))
	// Without changes no room is needed.
	perform(t, s, openStrict(), getIn(0, "a"), askIn(0, 3))
	expect(t, s, commitOf(0), numbered(api.MaxStates-1))
	if !same(s.States(), states) {
		t.Errorf("the versions became %+v", s.States())
	}
}

// All promises together, for many sequences of actions

// model does what a store does, with maps of names to texts. It knows nothing of
// View, and finds changes by comparing the texts of the versions.
type model struct {
	acts     int
	versions []map[string]string
	desks    [api.MaxOpen]*desk
}

// desk is an open session: a text that it has written is empty if the name was
// dropped.
type desk struct {
	strict      bool
	from        int
	wrote, read map[string]string
}

// sorted returns the keys of a map.
func sorted(m map[string]string) []string {
	return slices.Sorted(maps.Keys(m))
}

// bookOf returns the book of the texts that are not empty.
func bookOf(m map[string]string) api.Book {
	var texts []string
	for _, name := range sorted(m) {
		if m[name] != "" {
			texts = append(texts, m[name])
		}
	}
	return read(texts...)
}

// over returns the texts of base and, in their place, those of top.
func over(base, top map[string]string) map[string]string {
	out := maps.Clone(base)
	maps.Copy(out, top)
	maps.DeleteFunc(out, func(_, s string) bool { return s == "" })
	return out
}

func (m *model) do(a api.Act) api.Reply {
	m.acts++
	switch {
	case m.acts > api.MaxActs:
		return failed(api.ErrFull)
	case a.Kind < 1 || a.Kind > 7:
		return failed(api.ErrKind)
	case a.Kind == api.ActOpen:
		return m.open(a.N)
	case a.N < 0 || a.N > 3 || m.desks[a.N] == nil:
		return failed(api.ErrNone)
	}
	x := m.desks[a.N]
	named := len(a.Name) > 0 && len(a.Name) <= 8 && !slices.ContainsFunc([]byte(a.Name), func(c byte) bool { return c < 'a' || c > 'z' })
	switch {
	case a.Kind == api.ActPut:
		return x.put(a.Text)
	case a.Kind == api.ActAsk:
		return m.ask(x, a.In)
	case a.Kind == api.ActCommit || a.Kind == api.ActAbort:
		m.desks[a.N] = nil
		if a.Kind == api.ActCommit {
			return m.commit(x)
		}
	case !named:
		return failed(api.ErrForm)
	case a.Kind == api.ActDrop:
		x.wrote[a.Name] = ""
	case a.Kind == api.ActGet:
		x.read[a.Name] = ""
		s := over(m.versions[x.from], x.wrote)[a.Name]
		if s == "" {
			return failed(api.ErrNone)
		}
		return api.Reply{Text: s}
	}
	return api.Reply{}
}

func (m *model) open(strict int) api.Reply {
	if strict < 0 || strict > 1 {
		return failed(api.ErrRange)
	}
	for n, x := range m.desks {
		if x == nil {
			m.desks[n] = &desk{strict == 1, len(m.versions) - 1, map[string]string{}, map[string]string{}}
			return numbered(n)
		}
	}
	return failed(api.ErrFull)
}

func (x *desk) put(s string) api.Reply {
	d, y, isTable, code := text.Parse(s)
	if code != api.OK {
		return failed(code)
	}
	if isTable {
		x.wrote[y.Name], _ = text.Table(y)
	} else {
		x.wrote[d.Name], _ = text.Domain(d)
	}
	return api.Reply{}
}

func (m *model) ask(x *desk, in []int) api.Reply {
	base := m.versions[x.from]
	seen := over(base, x.wrote)
	for name := range base {
		x.read[name] = ""
	}
	for name := range seen {
		x.read[name] = ""
	}
	if x.strict {
		x.read[""] = ""
	}
	answers, code := book.Ask(bookOf(seen), in)
	return api.Reply{Code: code, Answers: answers}
}

func (m *model) commit(x *desk) api.Reply {
	all := map[string]string{}
	for _, version := range m.versions {
		maps.Copy(all, version)
	}
	for _, name := range sorted(all) {
		_, mine := x.wrote[name]
		_, known := x.read[name]
		_, asked := x.read[""]
		for n := x.from; n+1 < len(m.versions); n++ {
			if m.versions[n][name] != m.versions[n+1][name] && (mine || x.strict && (known || asked)) {
				return old(name)
			}
		}
	}
	if len(x.wrote) == 0 {
		return numbered(len(m.versions) - 1)
	}
	if len(m.versions) == api.MaxStates {
		return failed(api.ErrFull)
	}
	next := over(m.versions[len(m.versions)-1], x.wrote)
	if name, at, code := book.Check(bookOf(next)); code != api.OK {
		return api.Reply{Code: code, Text: name, At: at}
	}
	m.versions = append(m.versions, next)
	return numbered(len(m.versions) - 1)
}

// session returns session n as the store should show it.
func (m *model) session(n int) api.Session {
	if n < 0 || n > 3 || m.desks[n] == nil {
		return api.Session{}
	}
	x := m.desks[n]
	return api.Session{Open: true, Strict: x.strict, From: x.from, Mine: bookOf(x.wrote), Gone: sorted(x.wrote), Read: sorted(x.read)}
}

// dice makes numbers that look arbitrary and are the same in every run.
type dice uint32

func (d *dice) roll(n int) int {
	*d = *d*1664525 + 1013904223
	return int(*d>>8) % n
}

// pick returns one of the elements of l.
func pick[E any](d *dice, l ...E) E {
	return l[d.roll(len(l))]
}

// text returns the text of a domain or table, most of which fit together.
func (d *dice) text() string {
	out := strconv.Itoa(d.roll(3))
	return pick(d,
		"domain a 0..4", "domain a 0..5", "domain b 1.."+strconv.Itoa(2+d.roll(3)), "domain b 1..2",
		"domain "+pick(d, "c", "d", "e", "t")+" 0..1",
		"table t first (a) { 0..3 => "+out+"; * => 1; }", "table t unique complete (a) { 0..2 => 1; 3..4 => "+out+"; }",
		"table t any (a) { 0..3 => 1; 3..9 => "+out+"; }", "table u sum complete (a,t) { *,* => "+out+"; }", "table u count (t) { 1 => 1; }",
		"table s first (a) { 1 => "+out+"; }", "table s first (u) { 1 => "+out+"; }", "table s most (a,b) { *,2 => 1; not 3,* => "+out+"; }",
		"table t first (u) { * => "+out+"; }", "table v least (a) { * => "+out+"; }", "table x least (a) { * => "+out+"; }", flat("b", 1),
		"domain a 4..0", "table t", "")
}

// session returns the number of a session, which is mostly an open one.
func (d *dice) session(m *model) int {
	var l []int
	for n, x := range m.desks {
		if x != nil {
			l = append(l, n)
		}
	}
	return pick(d, append(l, d.roll(api.MaxOpen))...)
}

// act returns an action, mostly one of an open session of m. If it is quick,
// most sessions are short.
func (d *dice) act(m *model, quick bool) api.Act {
	kind := pick(d, 1, 1, 1, 2, 2, 2, 2, 2, 3, 4, 4, 5, 6, 6, 6, 7)
	if quick {
		kind = []int{api.ActOpen, api.ActPut, api.ActCommit}[m.acts%3]
	}
	if d.roll(40) == 0 {
		kind = d.roll(11) - 1
	}
	n := d.session(m)
	if kind == api.ActOpen {
		n = d.roll(2)
	}
	if d.roll(40) == 0 {
		n = d.roll(9) - 2
	}
	a := api.Act{Kind: kind, N: n, Name: pick(d, "a", "b", "c", "s", "t", "t", "u", "v", "", "A"), Text: d.text()}
	if quick {
		a.Text = "domain " + pick(d, "a", "b") + " 0.." + strconv.Itoa(d.roll(3))
	}
	for range pick(d, 1, 1, 2, 2, 2, 0, 3) {
		a.In = append(a.In, pick(d, 1, 1, 1, 2, 4, 9))
	}
	return a
}

// compare compares all that a store shows with the model, and overwrites it,
// because it belongs to the caller.
func compare(t *testing.T, s *Store, m *model) {
	t.Helper()
	var want []api.Book
	for _, version := range m.versions {
		want = append(want, bookOf(version))
	}
	got := s.States()
	if !same(got, want) {
		t.Fatalf("the versions are %+v, not %+v", got, want)
	}
	for _, b := range got {
		spoil(b)
	}
	for n := -1; n <= api.MaxOpen; n++ {
		x := s.Session(n)
		if !same(x, m.session(n)) {
			t.Fatalf("session %d is %+v, not %+v", n, x, m.session(n))
		}
		spoil(x.Mine)
		fill(x.Gone, "spoilt")
		fill(x.Read, "spoilt")
	}
}

func TestManyActions(t *testing.T) {
	d := dice(7)
	type reply struct {
		kind int
		code api.Errno
		name bool // whether there is a text
	}
	codes := map[reply]int{}
	for round := range 160 {
		s, m := New(), &model{versions: []map[string]string{{}}}
		var acts []api.Act
		var replies []api.Reply
		// A book with which most texts fit together comes first.
		first := []api.Act{open(), putIn(0, "domain a 0..4"), putIn(0, "domain b 1..2"), putIn(0, flat("t", 1)), commitOf(0)}
		for i := range api.MaxActs + 3 {
			a := d.act(m, round%4 == 0)
			if i < len(first) {
				a = first[i]
			}
			want := m.do(a)
			acts, replies = append(acts, a), append(replies, want)
			a.In = slices.Clone(a.In)
			got := s.Do(a)
			if !same(got, want) {
				t.Fatalf("round %d: Do(%+v) = %+v, not %+v", round, a, got, want)
			}
			if m.acts <= api.MaxActs {
				codes[reply{a.Kind, got.Code, got.Text != ""}]++
			}
			fill(a.In, 66)
			fill(got.Answers, api.Answer{Name: "spoilt"})
			fill(got.At, 66)
			compare(t, s, m)
		}
		if got, code := Run(acts[:api.MaxActs]); code != api.OK || !same(got, replies[:api.MaxActs]) {
			t.Fatalf("round %d: Run = %+v, %d", round, got, code)
		}
	}
	// If one of these replies were rare, the test would show little.
	for _, c := range []reply{
		{api.ActOpen, api.OK, false}, {api.ActOpen, api.ErrRange, false}, {api.ActOpen, api.ErrFull, false},
		{api.ActPut, api.OK, false}, {api.ActPut, api.ErrForm, false}, {api.ActDrop, api.OK, false}, {api.ActDrop, api.ErrForm, false},
		{api.ActGet, api.OK, true}, {api.ActGet, api.ErrNone, false}, {api.ActAsk, api.OK, false}, {api.ActAsk, api.ErrForm, false},
		{api.ActAsk, api.ErrRange, false}, {api.ActAsk, api.ErrClash, false}, {api.ActCommit, api.OK, false}, {api.ActCommit, api.ErrOld, true},
		{api.ActCommit, api.ErrFull, false}, {api.ActCommit, api.ErrGap, true}, {api.ActCommit, api.ErrClash, true},
		{api.ActCommit, api.ErrRing, false}, {api.ActCommit, api.ErrNone, true}, {api.ActCommit, api.ErrNone, false},
		{api.ActAbort, api.OK, false}, {0, api.ErrKind, false},
	} {
		if codes[c] < 20 {
			t.Errorf("kind %d with code %d: only %d replies", c.kind, c.code, codes[c])
		}
	}
}
