package box

import (
	"math"
	"slices"
	"testing"

	"ratebook/api"
)

const top = api.MaxNumber

// set builds a set from pairs of ends.
func set(ends ...int) []api.Range {
	var l []api.Range
	for i := 0; i+1 < len(ends); i += 2 {
		l = append(l, api.Range{Lo: ends[i], Hi: ends[i+1]})
	}
	return l
}

// plain builds a box whose sets have one range each, from pairs of ends.
func plain(ends ...int) api.Box {
	var b api.Box
	for _, r := range set(ends...) {
		b = append(b, []api.Range{r})
	}
	return b
}

// equal compares boxes set by set.
func equal(a, b api.Box) bool {
	return slices.EqualFunc(a, b, slices.Equal[[]api.Range])
}

// copyOf copies a box independently of the package's functions.
func copyOf(b api.Box) api.Box {
	out := make(api.Box, len(b))
	for i := range b {
		out[i] = append([]api.Range{}, b[i]...)
	}
	return out
}

// sets returns the sets of numbers below n that are not empty.
func sets(n int) [][]api.Range {
	var out [][]api.Range
	for bits := 1; bits < 1<<n; bits++ {
		var l []api.Range
		for k := range n {
			switch {
			case bits>>k&1 == 0:
			case k > 0 && bits>>(k-1)&1 == 1:
				l[len(l)-1].Hi = k
			default:
				l = append(l, api.Range{Lo: k, Hi: k})
			}
		}
		out = append(out, l)
	}
	return out
}

// boxes returns all good boxes with dim sets of numbers below n.
func boxes(dim, n int) []api.Box {
	out := []api.Box{{}}
	for range dim {
		var next []api.Box
		for _, b := range out {
			for _, s := range sets(n) {
				next = append(next, append(copyOf(b), s))
			}
		}
		out = next
	}
	return out
}

// inputs returns all inputs of dim numbers below n.
func inputs(dim, n int) [][]int {
	out := [][]int{{}}
	for range dim {
		var next [][]int
		for _, in := range out {
			for k := range n {
				next = append(next, append(slices.Clone(in), k))
			}
		}
		out = next
	}
	return out
}

// within is Has, number by number and range by range.
func within(b api.Box, in []int) bool {
	for i := range b {
		if !slices.ContainsFunc(b[i], func(r api.Range) bool { return r.Lo <= in[i] && in[i] <= r.Hi }) {
			return false
		}
	}
	return true
}

// holders counts the boxes of l that contain in.
func holders(l []api.Box, in []int) int {
	n := 0
	for _, b := range l {
		if within(b, in) {
			n++
		}
	}
	return n
}

// total adds up the sizes of the boxes of l.
func total(l []api.Box) int {
	n := 0
	for _, b := range l {
		n += Size(b)
	}
	return n
}

// allGood reports whether all boxes of l are good and have n sets.
func allGood(l []api.Box, n int) bool {
	return !slices.ContainsFunc(l, func(b api.Box) bool { return !Good(b, n) })
}

// bad are boxes that are not good, whatever number of sets is asked for.
func bad() []api.Box {
	return []api.Box{
		{nil},
		{{}},
		{nil, nil},
		{set(0, 9), nil},
		{nil, set(0, 9)},
		{set(0, 9), set(0, 9), {}},
		{set(2, 1)},
		{set(3, 5, 1, 2)},
		{set(1, 2, 3, 4)},
		{set(0, 9), set(1, 5, 3, 9)},
		{set(0, top+1)},
		{set(0, 9), set(-top-1, 0)},
		{set(math.MinInt, math.MaxInt)},
		{set(0, 9), set(math.MaxInt, math.MinInt)},
		{set(0, 9), set(0, 9), set(math.MaxInt, math.MaxInt, math.MinInt, math.MinInt)},
		plain(0, 9, 0, 9, 0, 9, 0, 9),
		plain(0, 9, 0, 9, 0, 9, 0, 9, 0, 9),
	}
}

// good are boxes of each possible number of sets.
func good() []api.Box {
	return []api.Box{
		nil,
		{},
		plain(0, 9),
		plain(5, 5),
		{set(0, 1, 3, 4, 6, 9)},
		plain(0, 9, 0, 9),
		{set(0, 3, 5, 9), set(-top, -top, top, top)},
		{set(-2, 2, 4, 4), set(-1, 0)},
		plain(0, 9, 0, 9, 0, 9),
		plain(-top, top, -top, top, -top, top),
		{set(1, 1, 3, 3), set(2, 4), set(0, 0, 9, 9)},
	}
}

// P2.1

func TestGood(t *testing.T) {
	cases := []struct {
		name string
		b    api.Box
		n    int
		want bool
	}{
		{"no sets", nil, 0, true},
		{"no sets, not nil", api.Box{}, 0, true},
		{"no sets, one wanted", nil, 1, false},
		{"no sets, a negative number wanted", nil, -1, false},
		{"one set", plain(0, 9), 1, true},
		{"one set, none wanted", plain(0, 9), 0, false},
		{"one set, two wanted", plain(0, 9), 2, false},
		{"one set, a negative number wanted", plain(0, 9), -1, false},
		{"two sets", plain(0, 9, 1, 2), 2, true},
		{"two sets, one wanted", plain(0, 9, 1, 2), 1, false},
		{"two sets, three wanted", plain(0, 9, 1, 2), 3, false},
		{"three sets", plain(0, 9, 1, 2, 3, 3), 3, true},
		{"more than MaxInputs sets", plain(0, 9, 1, 2, 3, 3, 4, 4), 4, false},
		{"sets of several ranges", api.Box{set(1, 2, 4, 5), set(0, 0, 2, 2, 4, 4)}, 2, true},
		{"the bounds", plain(-top, top, -top, -top, top, top), 3, true},
		{"the smallest n", plain(0, 9), math.MinInt, false},
		{"the greatest n", plain(0, 9), math.MaxInt, false},
		{"an empty set", api.Box{nil}, 1, false},
		{"an empty set first", api.Box{nil, set(1, 2)}, 2, false},
		{"an empty set last", api.Box{set(1, 2), set(1, 2), {}}, 3, false},
		{"an empty range", plain(2, 1), 1, false},
		{"ranges that touch", api.Box{set(1, 2, 3, 4)}, 1, false},
		{"ranges out of order", api.Box{set(0, 9), set(5, 6, 1, 2)}, 2, false},
		{"Hi out of bounds", plain(0, top+1), 1, false},
		{"Lo out of bounds", plain(0, 9, -top-1, 0), 2, false},
	}
	for _, c := range cases {
		if got := Good(c.b, c.n); got != c.want {
			t.Errorf("%s: Good(%v, %d) = %v", c.name, c.b, c.n, got)
		}
	}
}

func TestGoodOfLists(t *testing.T) {
	for _, b := range bad() {
		for n := range 7 {
			if Good(b, n) {
				t.Errorf("Good(%v, %d) = true", b, n)
			}
		}
	}
	for _, b := range good() {
		for n := -1; n < 7; n++ {
			if got := Good(b, n); got != (n == len(b)) {
				t.Errorf("Good(%v, %d) = %v", b, n, got)
			}
		}
	}
}

// P2.2

func TestHas(t *testing.T) {
	two := api.Box{set(0, 3, 7, 9), set(-2, -1)}
	cases := []struct {
		name string
		b    api.Box
		in   []int
		want bool
	}{
		{"no sets, no numbers", nil, nil, true},
		{"no sets, one number", nil, []int{0}, false},
		{"one set, no numbers", plain(0, 9), nil, false},
		{"the ends", two, []int{0, -2}, true},
		{"the other ends", two, []int{9, -1}, true},
		{"first number in no range", two, []int{5, -1}, false},
		{"second number below", two, []int{2, -3}, false},
		{"second number above", two, []int{2, 0}, false},
		{"both outside", two, []int{5, 5}, false},
		{"each in the other set only", two, []int{-1, 3}, false},
		{"one number too few", two, []int{2}, false},
		{"one number too many", two, []int{2, -1, 0}, false},
		{"three numbers", plain(1, 1, 2, 2, 3, 3), []int{1, 2, 3}, true},
		{"three numbers, the last one outside", plain(1, 1, 2, 2, 3, 3), []int{1, 2, 4}, false},
		{"an empty set", api.Box{set(0, 9), nil}, []int{0, 0}, false},
		{"more than MaxInputs sets", plain(0, 9, 0, 9, 0, 9, 0, 9), []int{1, 2, 3, 4}, true},
		{"the greatest number", plain(0, 9), []int{math.MaxInt}, false},
		{"the smallest number", plain(0, 9), []int{math.MinInt}, false},
	}
	for _, c := range cases {
		if got := Has(c.b, c.in); got != c.want {
			t.Errorf("%s: Has(%v, %v) = %v", c.name, c.b, c.in, got)
		}
	}
}

func TestHasOfAllSmallBoxes(t *testing.T) {
	for dim := range 4 {
		for _, b := range boxes(dim, 3) {
			for _, in := range inputs(dim, 4) {
				if got := Has(b, in); got != within(b, in) {
					t.Errorf("Has(%v, %v) = %v", b, in, got)
				}
			}
		}
	}
}

// P2.3

func TestBoth(t *testing.T) {
	cases := []struct {
		name       string
		a, b, want api.Box
		ok         bool
	}{
		{"no sets", nil, api.Box{}, nil, true},
		{"overlapping", plain(0, 9, 0, 9), plain(5, 20, -3, 3), plain(5, 9, 0, 3), true},
		{"the same", plain(0, 9, 1, 2), plain(0, 9, 1, 2), plain(0, 9, 1, 2), true},
		{"one within the other", plain(0, 9, 0, 9, 0, 9), plain(1, 2, 3, 4, 5, 6), plain(1, 2, 3, 4, 5, 6), true},
		{"one input in common", plain(0, 4, 0, 4), plain(4, 9, 4, 9), plain(4, 4, 4, 4), true},
		{"several ranges", api.Box{set(0, 3, 6, 9), set(1, 1)}, api.Box{set(2, 7), set(0, 5)},
			api.Box{set(2, 3, 6, 7), set(1, 1)}, true},
		{"the bounds", plain(-top, top), api.Box{set(-top, -top, top, top)}, api.Box{set(-top, -top, top, top)}, true},
		{"apart in the first set", plain(0, 9, 0, 9), plain(10, 20, 0, 9), nil, false},
		{"apart in the last set", plain(0, 9, 0, 9, 0, 9), plain(0, 9, 0, 9, 10, 10), nil, false},
		{"apart between ranges", api.Box{set(0, 3, 6, 9)}, plain(4, 5), nil, false},
		{"fewer sets", plain(0, 9, 0, 9), plain(0, 9), nil, false},
		{"no sets in one", plain(0, 9), nil, nil, false},
		{"too many sets", plain(0, 9, 0, 9, 0, 9, 0, 9), plain(0, 9, 0, 9, 0, 9, 0, 9), nil, false},
		{"an empty set in one", plain(0, 9, 0, 9), api.Box{set(0, 9), nil}, nil, false},
		{"ranges that touch", plain(0, 9), api.Box{set(1, 2, 3, 4)}, nil, false},
		{"out of bounds", plain(0, 9), plain(0, top+1), nil, false},
	}
	for _, c := range cases {
		if got, ok := Both(c.a, c.b); ok != c.ok || !equal(got, c.want) {
			t.Errorf("%s: Both(%v, %v) = %v, %v", c.name, c.a, c.b, got, ok)
		}
		if got, ok := Both(c.b, c.a); ok != c.ok || !equal(got, c.want) {
			t.Errorf("%s: Both(%v, %v) = %v, %v", c.name, c.b, c.a, got, ok)
		}
	}
}

func TestBothOfBadBoxes(t *testing.T) {
	for _, b := range bad() {
		for _, a := range append(good(), bad()...) {
			if got, ok := Both(a, b); ok || len(got) != 0 {
				t.Errorf("Both(%v, %v) = %v, %v", a, b, got, ok)
			}
			if got, ok := Both(b, a); ok || len(got) != 0 {
				t.Errorf("Both(%v, %v) = %v, %v", b, a, got, ok)
			}
		}
	}
}

// P2.3 and P2.4, for all pairs of small boxes

func TestBothAndLessOfAllSmallBoxes(t *testing.T) {
	for _, c := range []struct{ dim, n int }{{0, 1}, {1, 5}, {2, 3}, {3, 2}} {
		all, ins := boxes(c.dim, c.n), inputs(c.dim, c.n)
		for _, a := range all {
			for _, b := range all {
				checkBoth(t, a, b, ins)
				checkLess(t, a, b, ins)
			}
		}
	}
}

// checkBoth compares Both with what holds input by input.
func checkBoth(t *testing.T, a, b api.Box, ins [][]int) {
	t.Helper()
	got, ok := Both(a, b)
	if ok && !Good(got, len(a)) {
		t.Fatalf("Both(%v, %v) = %v, which is not good", a, b, got)
	}
	some := false
	for _, in := range ins {
		want := within(a, in) && within(b, in)
		some = some || want
		if want != (ok && within(got, in)) {
			t.Fatalf("Both(%v, %v) = %v, %v is wrong for %v", a, b, got, ok, in)
		}
	}
	if ok != some || !ok && len(got) != 0 {
		t.Fatalf("Both(%v, %v) = %v, %v", a, b, got, ok)
	}
}

// checkLess compares Less with what holds input by input.
func checkLess(t *testing.T, a, b api.Box, ins [][]int) {
	t.Helper()
	got := Less(a, b)
	if !allGood(got, len(a)) {
		t.Fatalf("Less(%v, %v) = %v, which are not all good", a, b, got)
	}
	for _, in := range ins {
		want := 0
		if within(a, in) && !within(b, in) {
			want = 1
		}
		if n := holders(got, in); n != want {
			t.Fatalf("Less(%v, %v) = %v contains %v %d times", a, b, got, in, n)
		}
	}
}

// P2.4

func TestLess(t *testing.T) {
	cases := []struct {
		name string
		a, b api.Box
		size int
	}{
		{"no sets", nil, nil, 0},
		{"a hole", plain(0, 9, 0, 9), plain(3, 5, 3, 5), 91},
		{"a hole in three sets", plain(0, 9, 0, 9, 0, 9), plain(3, 5, 3, 5, 3, 5), 973},
		{"a corner", plain(0, 9, 0, 9), plain(5, 20, -3, 3), 80},
		{"the same", plain(0, 9, 0, 9), plain(0, 9, 0, 9), 0},
		{"all of it", plain(1, 2, 3, 4), plain(0, 9, 0, 9), 0},
		{"apart", plain(0, 9, 0, 9), plain(0, 9, 10, 20), 100},
		{"holes in every set", plain(0, 4, 0, 4), api.Box{set(0, 0, 2, 2, 4, 4), set(1, 1, 3, 3)}, 19},
		{"nearly all numbers", plain(-top, top, -top, top, -top, top), plain(-top, top, -top, top, -top, top-1),
			(2*top + 1) * (2*top + 1)},
	}
	for _, c := range cases {
		got := Less(c.a, c.b)
		if !allGood(got, len(c.a)) || total(got) != c.size {
			t.Errorf("%s: Less(%v, %v) = %v", c.name, c.a, c.b, got)
		}
	}
}

func TestLessOfBadBoxes(t *testing.T) {
	for _, b := range bad() {
		for _, a := range append(good(), bad()...) {
			if got := Less(a, b); len(got) != 0 {
				t.Errorf("Less(%v, %v) = %v", a, b, got)
			}
			if got := Less(b, a); len(got) != 0 {
				t.Errorf("Less(%v, %v) = %v", b, a, got)
			}
		}
	}
}

func TestLessOfDifferentNumbersOfSets(t *testing.T) {
	for _, a := range good() {
		for _, b := range good() {
			if got := Less(a, b); len(a) != len(b) && len(got) != 0 {
				t.Errorf("Less(%v, %v) = %v", a, b, got)
			}
		}
	}
}

func TestRest(t *testing.T) {
	a := plain(0, 9, 0, 9)
	cases := []struct {
		name string
		a    api.Box
		l    []api.Box
		size int
	}{
		{"no boxes", a, nil, 100},
		{"itself", a, []api.Box{a}, 0},
		{"itself among others", a, []api.Box{plain(1, 2, 3, 4), a, plain(5, 5, 5, 5)}, 0},
		{"two halves", a, []api.Box{plain(0, 4, 0, 9), plain(5, 9, 0, 9)}, 0},
		{"twice the same", a, []api.Box{plain(3, 5, 3, 5), plain(3, 5, 3, 5)}, 91},
		{"two that overlap", a, []api.Box{plain(0, 5, 0, 5), plain(4, 9, 4, 9)}, 32},
		{"all but a column", a, []api.Box{plain(0, 4, 0, 9), plain(5, 9, 0, 4), plain(6, 9, 5, 9)}, 5},
		{"apart", a, []api.Box{plain(10, 12, 0, 9), plain(0, 9, -5, -1)}, 100},
		{"only bad boxes", a, bad(), 100},
		{"fewer and more sets", a, []api.Box{nil, plain(0, 9), plain(0, 9, 0, 9, 0, 9)}, 100},
		{"bad boxes among good ones", a, slices.Concat(bad(), []api.Box{plain(0, 4, 0, 9)}, bad()), 50},
		{"a box without sets", nil, nil, 1},
		{"a box without sets, and bad ones", nil, bad(), 1},
		{"a box without sets less itself", nil, []api.Box{plain(0, 9), {}}, 0},
	}
	for _, c := range cases {
		got := Rest(c.a, c.l)
		if !allGood(got, len(c.a)) || total(got) != c.size {
			t.Errorf("%s: Rest(%v, %v) = %v", c.name, c.a, c.l, got)
		}
	}
	for _, b := range bad() {
		if got := Rest(b, nil); len(got) != 0 {
			t.Errorf("Rest(%v, nil) = %v", b, got)
		}
		if got := Rest(b, good()); len(got) != 0 {
			t.Errorf("Rest(%v, ..) = %v", b, got)
		}
	}
}

func TestRestOfAllSmallBoxes(t *testing.T) {
	for _, c := range []struct{ dim, n int }{{0, 1}, {1, 4}, {2, 2}, {3, 2}} {
		all, ins := boxes(c.dim, c.n), inputs(c.dim, c.n)
		a := all[len(all)-1]
		for _, x := range all {
			for _, y := range all {
				checkRest(t, a, []api.Box{x, y}, ins)
				checkRest(t, x, []api.Box{y, {nil}, all[0]}, ins)
			}
		}
	}
}

// TestRestOfManyBoxes takes away boxes that cut across one another, so that
// what is already split is split again.
func TestRestOfManyBoxes(t *testing.T) {
	a, ins := plain(0, 7, 0, 7, 0, 7), inputs(3, 8)
	var l []api.Box
	for i := range 8 {
		k := i * 3 % 8
		l = append(l, plain(k, k+1, k-1, k, k, k), api.Box{set(0, 0, 2, 2, 7, 7), set(k, k), set(0, k)})
		checkRest(t, a, l, ins)
	}
}

// checkRest compares Rest with what holds input by input; a and the good boxes
// of l have as many sets as an input has numbers.
func checkRest(t *testing.T, a api.Box, l []api.Box, ins [][]int) {
	t.Helper()
	got := Rest(a, l)
	if !allGood(got, len(a)) {
		t.Fatalf("Rest(%v, %v) = %v, which are not all good", a, l, got)
	}
	for _, in := range ins {
		taken := slices.ContainsFunc(l, func(b api.Box) bool { return Good(b, len(a)) && within(b, in) })
		want := 0
		if within(a, in) && !taken {
			want = 1
		}
		if n := holders(got, in); n != want {
			t.Fatalf("Rest(%v, %v) = %v contains %v %d times", a, l, got, in, n)
		}
	}
}

// P2.5

func TestPoint(t *testing.T) {
	cases := []struct {
		name string
		b    api.Box
		want []int
	}{
		{"no sets", nil, nil},
		{"two sets", plain(3, 5, -2, 7), []int{3, -2}},
		{"several ranges", api.Box{set(1, 2, 4, 5), set(-9, -9, 0, 9), set(7, 7)}, []int{1, -9, 7}},
		{"the bounds", plain(-top, top, top, top), []int{-top, top}},
		{"an empty set", api.Box{nil}, nil},
		{"an empty set first", api.Box{{}, set(3, 5), set(4, 4)}, []int{3, 4}},
		{"an empty set between", api.Box{set(3, 5), nil, set(4, 4)}, []int{3, 4}},
		{"an empty set last", api.Box{set(3, 5), set(4, 4), nil}, []int{3, 4}},
		{"more than MaxInputs sets", plain(1, 1, 2, 2, 3, 3, 4, 4), []int{1, 2, 3, 4}},
	}
	for _, c := range cases {
		if got := Point(c.b); !slices.Equal(got, c.want) {
			t.Errorf("%s: Point(%v) = %v", c.name, c.b, got)
		}
	}
}

// TestPointIsSmallest relies on inputs being in increasing order.
func TestPointIsSmallest(t *testing.T) {
	for dim := range 4 {
		ins := inputs(dim, 3)
		for _, b := range boxes(dim, 3) {
			first := slices.IndexFunc(ins, func(in []int) bool { return within(b, in) })
			if got := Point(b); !slices.Equal(got, ins[first]) {
				t.Errorf("Point(%v) = %v", b, got)
			}
		}
	}
}

func TestSize(t *testing.T) {
	cases := []struct {
		name string
		b    api.Box
		want int
	}{
		{"the document's example", plain(0, 9, 1, 2), 20},
		{"no sets", nil, 1},
		{"one input", plain(7, 7, 8, 8, 9, 9), 1},
		{"several ranges", api.Box{set(0, 1, 3, 3), set(-2, -1), set(0, 0, 5, 8)}, 30},
		{"all inputs of one number", plain(-top, top), 2*top + 1},
		{"all inputs", plain(-top, top, -top, top, -top, top), (2*top + 1) * (2*top + 1) * (2*top + 1)},
	}
	for _, c := range cases {
		if got := Size(c.b); got != c.want {
			t.Errorf("%s: Size(%v) = %d", c.name, c.b, got)
		}
	}
	for _, b := range bad() {
		if got := Size(b); got != 0 {
			t.Errorf("Size(%v) = %d", b, got)
		}
	}
}

func TestSizeOfAllSmallBoxes(t *testing.T) {
	for dim := range 4 {
		for _, b := range boxes(dim, 3) {
			want := 0
			for _, in := range inputs(dim, 3) {
				if within(b, in) {
					want++
				}
			}
			if got := Size(b); got != want {
				t.Errorf("Size(%v) = %d", b, got)
			}
		}
	}
}

// What holds everywhere

// TestAnyBoxesTerminate has no expectation where the document has none.
func TestAnyBoxesTerminate(t *testing.T) {
	all := append(good(), bad()...)
	for _, a := range all {
		Point(a)
		for _, in := range [][]int{nil, {0}, {math.MinInt, math.MaxInt}, {1, 2, 3}, {1, 2, 3, 4}} {
			Has(a, in)
		}
		if got := Rest(a, all); !allGood(got, len(a)) {
			t.Errorf("Rest(%v, ..) = %v", a, got)
		}
	}
}

func TestArgumentsAreNotModified(t *testing.T) {
	all := append(good(), bad()...)
	for _, x := range all {
		for _, y := range all {
			a, wholeA := withSpare(x)
			b, wholeB := withSpare(y)
			keptA, keptB := copyOf(wholeA), copyOf(wholeB)
			list := []api.Box{b, a, a, b}
			in := []int{1, 2, 3, 4, 5}
			Good(a, len(a))
			Has(a, in[:len(a)])
			Both(a, b)
			Less(a, b)
			Rest(a, list[:2])
			Point(a)
			Size(a)
			if !equal(wholeA, keptA) || !equal(wholeB, keptB) {
				t.Fatalf("%v and %v became %v and %v", keptA, keptB, wholeA, wholeB)
			}
			if !equal(list[0], b) || !equal(list[1], a) || !equal(list[2], a) || !equal(list[3], b) {
				t.Fatalf("the list of boxes became %v", list)
			}
			if !slices.Equal(in, []int{1, 2, 3, 4, 5}) {
				t.Fatalf("the input became %v", in)
			}
		}
	}
}

// withSpare returns a copy of b that has spare capacity, as each of its sets
// has, and the same memory with the spare parts, in which a write would show.
func withSpare(b api.Box) (part, whole api.Box) {
	for _, s := range b {
		long := append(slices.Clone(s), api.Range{Lo: 77, Hi: 88}, api.Range{Lo: 77, Hi: 88})
		part = append(part, long[:len(s)])
		whole = append(whole, long)
	}
	for range 3 {
		part = append(part, set(55, 66))
	}
	return part[:len(b)], append(whole, part[len(b):]...)
}

// TestResultsAreNewMemory overwrites each set and each box of the results and
// expects the arguments and the rest of the result to stay as they are.
func TestResultsAreNewMemory(t *testing.T) {
	a := api.Box{set(0, 9), set(0, 4, 6, 9), set(0, 9)}
	same, apart, hole := copyOf(a), plain(20, 30, 20, 30, 20, 30), plain(3, 5, 3, 5, 3, 5)
	both, _ := Both(a, same)
	results := [][]api.Box{
		{both},
		Less(a, apart),
		Less(a, hole),
		Rest(a, nil),
		Rest(a, []api.Box{apart}),
		Rest(a, []api.Box{apart, hole, plain(0, 1, 0, 1, 0, 1), apart}),
	}
	for i, l := range results {
		if len(l) == 0 {
			t.Fatalf("result %d is empty, which shows nothing", i)
		}
		all := append([]api.Box{a, same, apart, hole}, l...)
		checkApart(t, slices.Concat(all...), func(x, y api.Range) bool { return x == y })
		checkApart(t, all, slices.Equal[[]api.Range])
	}
}

// checkApart overwrites one list after the other, to the end of its capacity,
// and expects all others to stay as they are.
func checkApart[L ~[]E, E any](t *testing.T, lists []L, same func(a, b E) bool) {
	t.Helper()
	var kept []L
	for _, l := range lists {
		kept = append(kept, slices.Clone(l[:cap(l)]))
	}
	for i, l := range lists {
		clear(l[:cap(l)])
		for k, other := range lists {
			if k != i && !slices.EqualFunc(other, kept[k][:len(other)], same) {
				t.Errorf("overwriting list %d changed list %d from %v to %v", i, k, kept[k], other)
			}
		}
		copy(l[:cap(l)], kept[i])
	}
}
