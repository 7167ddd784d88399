package table

import (
	"math"
	"slices"
	"testing"

	"ratebook/api"
	"ratebook/box"
)

// plain builds a box whose sets have one range each, from pairs of ends.
func plain(ends ...int) api.Box {
	var b api.Box
	for _, r := range set(ends...) {
		b = append(b, []api.Range{r})
	}
	return b
}

// equal compares boxes set by set.
func equal(a, b api.Box) bool {
	return slices.EqualFunc(a, b, slices.Equal[[]api.Range])
}

// badBoxes are boxes that are not good, whatever number of sets is asked for.
func badBoxes() []api.Box {
	return []api.Box{
		{nil},
		{{}},
		{set(0, 9), nil},
		{nil, set(0, 9)},
		{set(0, 9), set(0, 9), {}},
		{set(2, 1)},
		{set(3, 5, 1, 2)},
		{set(1, 2, 3, 4)},
		{set(0, 9), set(1, 5, 3, 9)},
		{set(0, 9), set(0, top+1)},
		{set(0, 9), set(-top-1, 0)},
		{set(math.MinInt, math.MaxInt)},
		{set(math.MinInt, math.MaxInt), set(math.MaxInt, math.MinInt)},
		plain(0, 9, 0, 9, 0, 9, 0, 9),
	}
}

// dice makes numbers that look arbitrary and are the same in every run.
type dice uint32

func (d *dice) roll(n int) int {
	*d = *d*1664525 + 1013904223
	return int(*d>>8) % n
}

// set returns a set of numbers below n, which may be empty.
func (d *dice) set(n int) []api.Range {
	return setOf(d.roll(1<<n), n)
}

// box returns a good box with dim sets of numbers below n.
func (d *dice) box(dim, n int) api.Box {
	var b api.Box
	for range dim {
		b = append(b, setOf(1+d.roll(1<<n-1), n))
	}
	return b
}

// table returns a good table with dim inputs, whose cells are about numbers below n.
func (d *dice) table(dim, n int) api.Table {
	x := api.Table{Name: "t", Policy: 1 + d.roll(7), Inputs: []string{"a", "b", "c"}[:dim]}
	for range 1 + d.roll(api.MaxRules) {
		r := api.Rule{Out: d.roll(4) - 1}
		for range dim {
			l := d.set(n)
			r.Cells = append(r.Cells, api.Cell{Not: len(l) > 0 && d.roll(3) == 0, Ranges: l})
		}
		x.Rules = append(x.Rules, r)
	}
	return x
}

// setOf returns the set of the numbers below n whose bits are 1.
func setOf(bits, n int) []api.Range {
	var l []api.Range
	for k := range n {
		switch {
		case bits>>k&1 == 0:
		case k > 0 && bits>>(k-1)&1 == 1:
			l[len(l)-1].Hi = k
		default:
			l = append(l, api.Range{Lo: k, Hi: k})
		}
	}
	return l
}

// cells returns all cells of sets of numbers below n that a good table may have.
func cells(n int) []api.Cell {
	out := []api.Cell{{}}
	for bits := 1; bits < 1<<n; bits++ {
		out = append(out, api.Cell{Ranges: setOf(bits, n)}, api.Cell{Not: true, Ranges: setOf(bits, n)})
	}
	return out
}

// rules returns all lists of dim cells of numbers below n.
func rules(dim, n int) [][]api.Cell {
	out := [][]api.Cell{{}}
	for range dim {
		var next [][]api.Cell
		for _, l := range out {
			for _, c := range cells(n) {
				next = append(next, append(slices.Clone(l), c))
			}
		}
		out = next
	}
	return out
}

// inputs returns all inputs of dim numbers below n, in increasing order.
func inputs(dim, n int) [][]int {
	out := [][]int{{}}
	for range dim {
		var next [][]int
		for _, in := range out {
			for k := range n {
				next = append(next, append(slices.Clone(in), k))
			}
		}
		out = next
	}
	return out
}

// inside reports whether a number is in a range of l.
func inside(l []api.Range, n int) bool {
	return slices.ContainsFunc(l, func(r api.Range) bool { return r.Lo <= n && n <= r.Hi })
}

// within reports whether an input is in a box, number by number.
func within(b api.Box, in []int) bool {
	for i := range b {
		if !inside(b[i], in[i]) {
			return false
		}
	}
	return true
}

// covers reports whether all cells of a rule hold, as P3.3 says it.
func covers(r api.Rule, in []int) bool {
	for i, c := range r.Cells {
		if len(c.Ranges) > 0 && inside(c.Ranges, in[i]) == c.Not {
			return false
		}
	}
	return true
}

// expect is Says, directly from P3.4, for a good table.
func expect(x api.Table, in []int) answer {
	var outs []int
	total := 0
	for _, r := range x.Rules {
		if covers(r, in) {
			outs = append(outs, r.Out)
			total += r.Out
		}
	}
	if x.Policy == api.Count {
		return answer{len(outs), true, api.OK}
	}
	if len(outs) == 0 {
		return answer{}
	}
	different := len(slices.Compact(slices.Sorted(slices.Values(outs))))
	if x.Policy == api.Unique && len(outs) > 1 || x.Policy == api.Any && different > 1 {
		return answer{0, false, api.ErrTwo}
	}
	byPolicy := []int{outs[0], outs[0], outs[0], slices.Min(outs), slices.Max(outs), total}
	return answer{byPolicy[x.Policy-1], true, api.OK}
}

// checkTable compares the functions of the package with what holds input by
// input; ins are the inputs that the box may contain, in increasing order.
func checkTable(t *testing.T, x api.Table, all api.Box, ins [][]int) {
	t.Helper()
	var gap, clash []int
	span := Span(x)
	for _, in := range ins {
		want := expect(x, in)
		if got := says(x, in); got != want {
			t.Fatalf("Says(%v, %v) = %v, not %v", x, in, got, want)
		}
		if want.ok && (want.n < span.Lo || want.n > span.Hi) {
			t.Fatalf("Span(%v) = %v is without %d", x, span, want.n)
		}
		if !within(all, in) {
			continue
		}
		if want == (answer{}) && gap == nil {
			gap = in
		}
		if want.code == api.ErrTwo && clash == nil {
			clash = in
		}
	}
	if got, ok := Gap(x, all); ok != (gap != nil) || !slices.Equal(got, gap) {
		t.Fatalf("Gap(%v, %v) = %v, %v, not %v", x, all, got, ok, gap)
	}
	if got, ok := Clash(x, all); ok != (clash != nil) || !slices.Equal(got, clash) {
		t.Fatalf("Clash(%v, %v) = %v, %v, not %v", x, all, got, ok, clash)
	}
	for _, r := range x.Rules {
		checkArea(t, r, all, ins)
	}
}

// checkArea compares Area with what holds input by input.
func checkArea(t *testing.T, r api.Rule, all api.Box, ins [][]int) {
	t.Helper()
	got, ok := Area(r, all)
	if ok && !box.Good(got, len(all)) || !ok && len(got) > 0 {
		t.Fatalf("Area(%v, %v) = %v, %v", r, all, got, ok)
	}
	some := false
	for _, in := range ins {
		want := within(all, in) && covers(r, in)
		some = some || want
		if want != (ok && within(got, in)) {
			t.Fatalf("Area(%v, %v) = %v, %v is wrong for %v", r, all, got, ok, in)
		}
	}
	if ok != some {
		t.Fatalf("Area(%v, %v) = %v, %v", r, all, got, ok)
	}
}

// P3.3 to P3.8, for all pairs of small rules

func TestAllSmallTables(t *testing.T) {
	for _, c := range []struct{ dim, n int }{{1, 3}, {2, 2}} {
		ins, d := inputs(c.dim, c.n+1), dice(1)
		for _, a := range rules(c.dim, c.n) {
			for _, b := range rules(c.dim, c.n) {
				for _, p := range policies() {
					x := api.Table{Name: "t", Policy: p, Inputs: []string{"a", "b"}[:c.dim]}
					x.Rules = []api.Rule{rule(1, a...), rule(d.roll(2), b...)}
					checkTable(t, x, d.box(c.dim, c.n+1), ins)
				}
			}
		}
	}
}

func TestManyTables(t *testing.T) {
	d := dice(2)
	for dim := 1; dim <= api.MaxInputs; dim++ {
		for n := 2; n <= 5; n++ {
			ins := inputs(dim, n+1)
			for range 1500 {
				checkTable(t, d.table(dim, n), d.box(dim, n+1), ins)
			}
		}
	}
}

// P3.6

func TestGap(t *testing.T) {
	square := plain(0, 9, 0, 9)
	cases := []struct {
		name string
		x    api.Table
		all  api.Box
		want []int
	}{
		{"the document's example", make1(api.Unique, rule(1, at(0, 4))), plain(0, 9), []int{5}},
		{"a missing number", make1(api.Unique, rule(1, at(0, 4)), rule(2, at(6, 9))), plain(0, 9), []int{5}},
		{"no gap", make1(api.Unique, rule(1, at(0, 4)), rule(2, at(5, 9))), plain(0, 9), nil},
		{"rules beyond the box", make1(api.Unique, rule(1, at(-5, 4)), rule(2, at(3, 20))), plain(0, 9), nil},
		{"nothing matches", make1(api.Any, rule(1, at(10, 20))), plain(3, 9), []int{3}},
		{"a cell without ranges", make1(api.First, rule(1, at())), plain(-top, top), nil},
		{"only the greatest number", make1(api.First, rule(1, not(top, top))), plain(-top, top), []int{top}},
		{"only the smallest number", make1(api.First, rule(1, not(-top, -top))), plain(-top, top), []int{-top}},
		{"a gap outside the box", make1(api.Sum, rule(1, at(0, 4, 6, 9))), api.Box{set(0, 4, 7, 9)}, nil},
		{"the first number decides", make2(api.Least, rule(1, not(3, 3, 5, 5), at()), rule(2, at(3, 3), not(8, 8)), rule(3, at(5, 5), not(1, 1))),
			square, []int{3, 8}},
		{"the second number decides", make2(api.Most, rule(1, not(3, 3), at()), rule(1, at(), not(4, 4, 8, 8))), square, []int{3, 4}},
		{"two sides", make2(api.Any, rule(1, at(), at(1, 9)), rule(1, at(1, 9), at())), square, []int{0, 0}},
		{"a corner", make2(api.Any, rule(1, at(), at(0, 8)), rule(1, at(0, 8), at())), square, []int{9, 9}},
		{"a set of several ranges", make2(api.Any, rule(1, at(0, 5), at())), api.Box{set(2, 3, 7, 8), set(4, 4, 6, 9)}, []int{7, 4}},
		{"three inputs", make3(api.Sum, rule(1, at(), at(), at(0, 8)), rule(1, at(0, 4), at(), at()), rule(1, at(), not(7, 7), at())),
			plain(0, 9, 0, 9, 0, 9), []int{5, 7, 9}},
		{"clashes do not matter", make1(api.Unique, rule(1, at()), rule(2, at())), plain(0, 9), nil},
		{"Count", make1(api.Count, rule(1, at(0, 4))), plain(0, 9), nil},
	}
	for _, c := range cases {
		if got, ok := Gap(c.x, c.all); ok != (c.want != nil) || !slices.Equal(got, c.want) {
			t.Errorf("%s: Gap(%v, %v) = %v, %v", c.name, c.x, c.all, got, ok)
		}
	}
}

func TestGapOfEachPolicy(t *testing.T) {
	for _, p := range policies() {
		x := make1(p, rule(1, at(0, 4)))
		if got, ok := Gap(x, plain(0, 9)); ok != (p != api.Count) || ok && !slices.Equal(got, []int{5}) || !ok && len(got) > 0 {
			t.Errorf("policy %d: %v, %v", p, got, ok)
		}
		// Complete says what a book checks, and changes nothing here.
		x.Complete = true
		if _, ok := Gap(x, plain(0, 9)); ok != (p != api.Count) {
			t.Errorf("policy %d, Complete: %v", p, ok)
		}
	}
}

// P3.7

func TestClash(t *testing.T) {
	square := plain(0, 9, 0, 9)
	same := []api.Rule{rule(1, at(0, 4)), rule(1, at(4, 9))}
	other := []api.Rule{rule(1, at(0, 4)), rule(2, at(4, 9))}
	three := []api.Rule{rule(1, at(0, 9)), rule(1, at(2, 9)), rule(5, at(7, 9))}
	crossed := []api.Rule{rule(1, at(5, 5), at()), rule(2, at(), at(6, 6)), rule(3, at(3, 3), at(8, 9))}
	cases := []struct {
		name  string
		rules []api.Rule
		all   api.Box
		// What Clash returns with Unique and with Any; nil means that there is none.
		unique, common []int
	}{
		{"the same Out", same, plain(0, 9), []int{4}, nil},
		{"different Outs", other, plain(0, 9), []int{4}, []int{4}},
		{"outside the box", other, api.Box{set(0, 3, 5, 9)}, nil, nil},
		{"apart", []api.Rule{rule(1, at(0, 4)), rule(2, at(5, 9))}, plain(0, 9), nil, nil},
		{"one rule", []api.Rule{rule(1, at())}, plain(0, 9), nil, nil},
		{"the third rule differs", three, plain(0, 9), []int{2}, []int{7}},
		{"the last pair is the smallest", []api.Rule{rule(1, at(8, 9)), rule(2, at(3, 9)), rule(3, at(1, 4))}, plain(0, 9), []int{3}, []int{3}},
		{"everything", []api.Rule{rule(1, at()), rule(2, at())}, plain(-top, top), []int{-top}, []int{-top}},
		{"the greatest number", []api.Rule{rule(1, at(top, top)), rule(2, at())}, plain(-top, top), []int{top}, []int{top}},
		{"Not", []api.Rule{rule(1, not(0, 3)), rule(2, not(5, 9))}, plain(0, 9), []int{4}, []int{4}},
		{"two inputs", crossed, square, []int{5, 6}, []int{5, 6}},
		{"the first number decides", append(crossed, rule(1, at(4, 4), at(7, 9)), rule(2, at(4, 4), at(9, 9))), square, []int{4, 9}, []int{4, 9}},
		{"the second number decides", append(crossed, rule(1, at(5, 5), at(8, 8)), rule(9, at(5, 5), at(2, 3))), square, []int{5, 2}, []int{5, 2}},
		{"several ranges", []api.Rule{rule(1, at(), at()), rule(2, at(5, 9), at(0, 4))}, api.Box{set(2, 3, 7, 8), set(3, 3, 6, 9)}, []int{7, 3}, []int{7, 3}},
		{"three inputs", []api.Rule{rule(1, at(0, 5), at(3, 9), at()), rule(2, at(5, 9), at(), at(7, 9))}, plain(0, 9, 0, 9, 0, 9), []int{5, 3, 7}, []int{5, 3, 7}},
		{"gaps do not matter", []api.Rule{rule(1, at(8, 8)), rule(2, at(8, 8))}, plain(0, 9), []int{8}, []int{8}},
	}
	for _, c := range cases {
		for _, p := range policies() {
			x := api.Table{Name: "t", Policy: p, Inputs: []string{"a", "b", "c"}[:len(c.all)], Rules: c.rules}
			var want []int
			switch p {
			case api.Unique:
				want = c.unique
			case api.Any:
				want = c.common
			}
			if got, ok := Clash(x, c.all); ok != (want != nil) || !slices.Equal(got, want) {
				t.Errorf("%s: Clash(%v, %v) = %v, %v", c.name, x, c.all, got, ok)
			}
		}
	}
}

// P3.6 and P3.7, for invalid arguments

func TestGapAndClashOfBadTables(t *testing.T) {
	for name, x := range badTables() {
		// First never clashes, which would hide that a bad table is taken for a good one.
		if x.Policy == api.First {
			x.Policy = api.Unique
		}
		for _, all := range append(badBoxes(), nil, plain(0, 9), plain(0, 9, 0, 9), plain(0, 9, 0, 9, 0, 9)) {
			checkNone(t, name, x, all)
		}
	}
}

func TestGapAndClashOfBadBoxes(t *testing.T) {
	// Both tables have a gap if the first number is 0, and a clash if it is
	// another one, so that it shows if such a box is taken for a good one.
	one := make1(api.Unique, rule(1, not(0, 0)), rule(2, not(0, 0)))
	two := make2(api.Unique, rule(1, not(0, 0), at()), rule(2, not(0, 0), at()))
	for _, x := range []api.Table{one, two} {
		for _, all := range append(badBoxes(), nil, api.Box{}, plain(0, 9, 0, 9, 0, 9)) {
			checkNone(t, "a bad box", x, all)
		}
	}
	checkNone(t, "a set too many", one, plain(0, 9, 0, 9))
	checkNone(t, "a set too few", two, plain(0, 9))
}

// checkNone expects that neither Gap nor Clash returns an input.
func checkNone(t *testing.T, name string, x api.Table, all api.Box) {
	t.Helper()
	if got, ok := Gap(x, all); ok || len(got) > 0 {
		t.Errorf("%s: Gap(%v, %v) = %v, %v", name, x, all, got, ok)
	}
	if got, ok := Clash(x, all); ok || len(got) > 0 {
		t.Errorf("%s: Clash(%v, %v) = %v, %v", name, x, all, got, ok)
	}
}

// P3.8

func TestArea(t *testing.T) {
	square := plain(0, 9, 0, 9)
	cases := []struct {
		name string
		r    api.Rule
		all  api.Box
		want api.Box
		ok   bool
	}{
		{"a part", rule(1, at(3, 12), at(-4, 4)), square, plain(3, 9, 0, 4), true},
		{"everything", rule(1, at(), at()), square, square, true},
		{"all numbers", rule(1, at(-top, top), at()), square, square, true},
		{"Not", rule(2, at(3, 9), not(3, 4)), square, api.Box{set(3, 9), set(0, 2, 5, 9)}, true},
		{"Not in several ranges", rule(2, not(0, 0, 3, 4, 9, 20)), plain(0, 9), api.Box{set(1, 2, 5, 8)}, true},
		{"several ranges", rule(2, at(0, 2, 4, 6)), api.Box{set(1, 4, 6, 9)}, api.Box{set(1, 2, 4, 4, 6, 6)}, true},
		{"one input", rule(1, at(9, 9), at(0, 0), not(0, 8)), plain(0, 9, 0, 9, 0, 9), plain(9, 9, 0, 0, 9, 9), true},
		{"the bounds", rule(1, not(-top+1, top-1)), plain(-top, top), api.Box{set(-top, -top, top, top)}, true},
		{"the first cell fails", rule(1, at(10, 20), at()), square, nil, false},
		{"the last cell fails", rule(1, at(), at(10, 20)), square, nil, false},
		{"Not fails", rule(1, at(), not(0, 9)), square, nil, false},
		{"between the ranges", rule(1, at(3, 3)), api.Box{set(0, 2, 4, 9)}, nil, false},
		{"a cell too few", rule(1, at()), square, nil, false},
		{"a cell too many", rule(1, at(), at(), at()), square, nil, false},
		{"no cells", rule(1), square, nil, false},
		{"no sets", rule(1, at()), nil, nil, false},
		{"too many sets", rule(1, at(), at(), at(), at()), plain(0, 9, 0, 9, 0, 9, 0, 9), nil, false},
	}
	for _, c := range cases {
		if got, ok := Area(c.r, c.all); ok != c.ok || !equal(got, c.want) {
			t.Errorf("%s: Area(%v, %v) = %v, %v", c.name, c.r, c.all, got, ok)
		}
	}
	for _, all := range badBoxes() {
		for n := range 5 {
			r := rule(1, slices.Repeat([]api.Cell{at()}, n)...)
			if got, ok := Area(r, all); ok || len(got) > 0 {
				t.Errorf("Area(%v, %v) = %v, %v", r, all, got, ok)
			}
		}
	}
}

// The document leaves such rules open; this package says of them what Holds says.
func TestAreaOfBadRules(t *testing.T) {
	bad := []api.Cell{
		not(), at(4, 3), not(4, 3), at(5, 6, 1, 2), not(5, 6, 1, 2), at(1, 2, 3, 4), not(1, 5, 4, 7),
		at(math.MinInt, 3), not(math.MinInt, 3), at(4, math.MaxInt), not(4, math.MaxInt),
		at(math.MinInt, math.MaxInt), not(math.MinInt, math.MaxInt), at(math.MaxInt, math.MinInt),
		at(0, 0, 2, 2, 4, 4, 6, 6, 8, 8), not(0, 0, 2, 2, 4, 4, 6, 6, 8, 8),
	}
	ins := inputs(2, 10)
	for _, a := range bad {
		for _, b := range bad {
			checkArea(t, rule(math.MinInt, a, b), api.Box{set(0, 4, 6, 9), set(0, 9)}, ins)
		}
	}
}

// What holds everywhere

// someTables are good tables and others.
func someTables() []api.Table {
	d := dice(3)
	var out []api.Table
	for i := range 30 {
		out = append(out, d.table(1+i%3, 5))
	}
	for _, x := range badTables() {
		out = append(out, x)
	}
	return out
}

// someBoxes are good boxes and others.
func someBoxes() []api.Box {
	d := dice(4)
	var out []api.Box
	for i := range 9 {
		out = append(out, d.box(i%4, 5))
	}
	return append(out, badBoxes()...)
}

func TestArgumentsAreNotModified(t *testing.T) {
	for _, x := range someTables() {
		for _, b := range someBoxes() {
			part, whole := tableWithSpare(x)
			all, wholeBox := boxWithSpare(b)
			kept, keptBox := copyOf(whole), copyOfBox(wholeBox)
			in := []int{1, 2, 3, 4, 5}
			Good(part)
			Matches(part, in[:len(all)])
			Says(part, in[:len(all)])
			Span(part)
			Gap(part, all)
			Clash(part, all)
			for _, r := range part.Rules {
				Area(r, all)
				for _, c := range r.Cells {
					Holds(c, 3)
				}
			}
			if !same(whole, kept) || !equal(wholeBox, keptBox) {
				t.Fatalf("%v and %v became %v and %v", kept, keptBox, whole, wholeBox)
			}
			if !slices.Equal(in, []int{1, 2, 3, 4, 5}) {
				t.Fatalf("the input became %v", in)
			}
		}
	}
}

// spare returns a copy of l with spare capacity, and the same memory with the
// spare part, in which a write would show.
func spare[L ~[]E, E any](l L, more ...E) (part, whole L) {
	whole = append(append(L{}, l...), more...)
	return whole[:len(l)], whole
}

// tableWithSpare returns a copy of x, all lists of which have spare capacity,
// and a table of the same memory with the spare parts.
func tableWithSpare(x api.Table) (part, whole api.Table) {
	part, whole = x, x
	part.Inputs, whole.Inputs = spare(x.Inputs, "y", "z")
	part.Rules, whole.Rules = nil, nil
	for _, r := range x.Rules {
		p, w := api.Rule{Out: r.Out}, api.Rule{Out: r.Out}
		for _, c := range r.Cells {
			short, long := spare(c.Ranges, set(77, 88, 55, 66)...)
			p.Cells = append(p.Cells, api.Cell{Not: c.Not, Ranges: short})
			w.Cells = append(w.Cells, api.Cell{Not: c.Not, Ranges: long})
		}
		p.Cells, _ = spare(p.Cells, at(77, 88))
		part.Rules = append(part.Rules, p)
		whole.Rules = append(whole.Rules, w)
	}
	return part, whole
}

// boxWithSpare does the same for a box.
func boxWithSpare(b api.Box) (part, whole api.Box) {
	for _, s := range b {
		short, long := spare(s, set(77, 88, 55, 66)...)
		part = append(part, short)
		whole = append(whole, long)
	}
	part, _ = spare(part, set(77, 88))
	return part, whole
}

// copyOf copies a table with all its lists.
func copyOf(x api.Table) api.Table {
	_, out := tableWithSpare(x)
	out.Inputs = out.Inputs[:len(x.Inputs)]
	for i, r := range out.Rules {
		for k := range r.Cells {
			r.Cells[k].Ranges = r.Cells[k].Ranges[:len(x.Rules[i].Cells[k].Ranges)]
		}
	}
	return out
}

// copyOfBox copies a box with all its lists.
func copyOfBox(b api.Box) api.Box {
	out := api.Box{}
	for _, s := range b {
		out = append(out, append([]api.Range{}, s...))
	}
	return out
}

// same compares tables with all their lists.
func same(a, b api.Table) bool {
	return a.Name == b.Name && a.Policy == b.Policy && a.Complete == b.Complete &&
		slices.Equal(a.Inputs, b.Inputs) && slices.EqualFunc(a.Rules, b.Rules, sameRule)
}

func sameRule(a, b api.Rule) bool {
	return a.Out == b.Out && slices.EqualFunc(a.Cells, b.Cells, sameCell)
}

func sameCell(a, b api.Cell) bool {
	return a.Not == b.Not && slices.Equal(a.Ranges, b.Ranges)
}

// TestResultsAreNewMemory overwrites the results and expects the arguments to
// stay as they are.
func TestResultsAreNewMemory(t *testing.T) {
	cell := []api.Cell{at(), at(0, 9), at(0, 4, 6, 20), not(20, 30), not(5, 5)}
	for _, a := range cell {
		for _, b := range cell {
			r, all := rule(1, a, b), api.Box{set(0, 4, 6, 9), set(0, 9)}
			x := make2(api.Unique, r, r)
			kept, keptBox := copyOf(x), copyOfBox(all)
			area, ok := Area(r, all)
			clash, found := Clash(x, all)
			if !ok || !found {
				t.Fatalf("no result, which shows nothing: %v, %v", area, clash)
			}
			for _, s := range area {
				clear(s[:cap(s)])
			}
			clear(area[:cap(area)])
			clear(clash[:cap(clash)])
			if !same(x, kept) || !equal(all, keptBox) {
				t.Fatalf("%v and %v became %v and %v", kept, keptBox, x, all)
			}
		}
	}
}

// TestAreaSetsAreApart passes one list as all sets and as the ranges of all
// cells, and expects no two sets of the result to share memory.
func TestAreaSetsAreApart(t *testing.T) {
	l := set(0, 4, 6, 9)
	for _, c := range []api.Cell{{}, {Ranges: l}, not(20, 30)} {
		area, ok := Area(rule(1, c, c, c), api.Box{l, l, l})
		if !ok {
			t.Fatalf("no area of %v", c)
		}
		clear(area[0][:cap(area[0])])
		clear(area[2][:cap(area[2])])
		if !slices.Equal(area[1], set(0, 4, 6, 9)) || !slices.Equal(l, set(0, 4, 6, 9)) {
			t.Errorf("%v: %v and %v", c, area, l)
		}
	}
}

// TestNilAndEmptyLists passes empty lists instead of nil ones.
func TestNilAndEmptyLists(t *testing.T) {
	empty := api.Table{Name: "t", Policy: api.First, Inputs: []string{}, Rules: []api.Rule{}}
	if Good(empty) || len(Matches(empty, []int{})) > 0 || says(empty, []int{}).code != api.ErrForm {
		t.Error("a table of empty lists")
	}
	checkNone(t, "empty lists", empty, api.Box{})
	x := make1(api.First, rule(1, api.Cell{Ranges: []api.Range{}}))
	if !Good(x) || says(x, []int{5}) != (answer{1, true, api.OK}) {
		t.Errorf("Says(%v) = %v", x, says(x, []int{5}))
	}
	x.Rules[0].Cells[0].Not = true
	if Good(x) || !Holds(x.Rules[0].Cells[0], 5) {
		t.Error("Not with an empty list")
	}
}

// TestAnyArgumentsTerminate has no expectation where the document has none.
func TestAnyArgumentsTerminate(t *testing.T) {
	for _, x := range someTables() {
		Span(x)
		for _, in := range [][]int{nil, {math.MinInt}, {math.MaxInt, 0}, {1, 2, 3}, {1, 2, 3, 4}} {
			Matches(x, in)
			Says(x, in)
		}
		for _, b := range someBoxes() {
			Gap(x, b)
			Clash(x, b)
			for _, r := range x.Rules {
				Area(r, b)
			}
		}
	}
}
