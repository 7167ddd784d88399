package span

import (
	"math"
	"slices"
	"testing"

	"ratebook/api"
)

const top = api.MaxNumber

// ranges builds a list of ranges from pairs of ends.
func ranges(ends ...int) []api.Range {
	var l []api.Range
	for i := 0; i+1 < len(ends); i += 2 {
		l = append(l, api.Range{Lo: ends[i], Hi: ends[i+1]})
	}
	return l
}

// setOf returns the set of those numbers from 0 to 9 whose bit is set,
// built number by number, independently of the package's functions.
func setOf(bits int) []api.Range {
	var l []api.Range
	for n := range 10 {
		if bits>>n&1 == 0 {
			continue
		}
		if n > 0 && bits>>(n-1)&1 == 1 {
			l[len(l)-1].Hi = n
		} else {
			l = append(l, api.Range{Lo: n, Hi: n})
		}
	}
	return l
}

// wild are lists that are not sets, with all kinds of ends.
func wild() [][]api.Range {
	return [][]api.Range{
		ranges(math.MinInt, math.MaxInt),
		ranges(math.MaxInt, math.MinInt),
		ranges(math.MinInt, math.MinInt, math.MaxInt, math.MaxInt),
		ranges(math.MaxInt, math.MaxInt, math.MinInt, math.MinInt),
		ranges(5, 1, 1, 5, 5, 1),
		ranges(1, 5, 1, 5, 3, 9, 0, 0),
		ranges(0, math.MaxInt, math.MinInt, 0),
		ranges(top+1, top+1, -top-1, -top-1),
	}
}

// P1.1

func TestGood(t *testing.T) {
	cases := []struct {
		name string
		l    []api.Range
		want bool
	}{
		{"nil", nil, true},
		{"no ranges", []api.Range{}, true},
		{"one number", ranges(7, 7), true},
		{"one range", ranges(-3, 4), true},
		{"all numbers", ranges(-top, top), true},
		{"the two ends", ranges(-top, -top, top, top), true},
		{"one number between", ranges(1, 2, 4, 5), true},
		{"three ranges", ranges(1, 1, 3, 3, 5, 9), true},
		{"touching", ranges(1, 2, 3, 4), false},
		{"touching later", ranges(-5, -5, 1, 2, 3, 4), false},
		{"sharing a number", ranges(1, 3, 3, 4), false},
		{"overlapping", ranges(1, 5, 3, 9), false},
		{"one within another", ranges(1, 9, 3, 4), false},
		{"twice the same", ranges(1, 2, 1, 2), false},
		{"decreasing", ranges(5, 6, 1, 2), false},
		{"decreasing later", ranges(1, 2, 8, 9, 5, 6), false},
		{"empty range", ranges(2, 1), false},
		{"empty range last", ranges(1, 2, 9, 8), false},
		{"empty range first", ranges(2, 1, 5, 6), false},
		{"Hi too great", ranges(0, top+1), false},
		{"Lo too small", ranges(-top-1, 0), false},
		{"Lo and Hi too great", ranges(top+1, top+1), false},
		{"Lo and Hi too small", ranges(-top-1, -top-1), false},
		{"second one too great", ranges(0, 0, top, top+1), false},
		{"first one too small", ranges(-top-1, -top-1, 0, 0), false},
	}
	for _, c := range cases {
		if got := Good(c.l); got != c.want {
			t.Errorf("%s: Good(%v) = %v", c.name, c.l, got)
		}
	}
	for _, l := range wild() {
		if Good(l) {
			t.Errorf("Good(%v) = true", l)
		}
	}
}

func TestGoodOfAllSmallSets(t *testing.T) {
	for bits := range 1 << 10 {
		if l := setOf(bits); !Good(l) {
			t.Errorf("Good(%v) = false", l)
		}
	}
}

// P1.2

func TestNorm(t *testing.T) {
	cases := []struct {
		name    string
		l, want []api.Range
	}{
		{"nil", nil, nil},
		{"the document's example", ranges(3, 5, 1, 2), ranges(1, 5)},
		{"a set", ranges(1, 2, 4, 5), ranges(1, 2, 4, 5)},
		{"touching", ranges(1, 2, 3, 4, 5, 5), ranges(1, 5)},
		{"not touching", ranges(5, 5, 1, 1, 3, 3), ranges(1, 1, 3, 3, 5, 5)},
		{"overlapping", ranges(3, 9, 1, 5), ranges(1, 9)},
		{"one within another", ranges(2, 3, 1, 9, 4, 5), ranges(1, 9)},
		{"after one within another", ranges(1, 9, 2, 3, 5, 12), ranges(1, 12)},
		{"the same Lo", ranges(1, 9, 1, 2, 1, 5), ranges(1, 9)},
		{"twice the same", ranges(1, 2, 1, 2), ranges(1, 2)},
		{"empty ranges only", ranges(7, 6, math.MaxInt, math.MinInt), nil},
		{"empty ranges join nothing", ranges(1, 2, 3, 2, 4, 5), ranges(1, 2, 4, 5)},
		{"an empty range with a Hi that is in bounds", ranges(2*top, 5), nil},
		{"an empty range with a Lo that is in bounds", ranges(5, -2*top), nil},
		{"clipped", ranges(-2*top, 0, top-1, 3*top), ranges(-top, 0, top-1, top)},
		{"all numbers", ranges(math.MinInt, math.MaxInt), ranges(-top, top)},
		{"out of bounds", ranges(top+1, math.MaxInt, math.MinInt, -top-1), nil},
		{"the two ends", ranges(top, math.MaxInt, math.MinInt, -top), ranges(-top, -top, top, top)},
		{"negative numbers", ranges(-3, -1, -9, -4), ranges(-9, -1)},
	}
	for _, c := range cases {
		if got := Norm(c.l); !slices.Equal(got, c.want) {
			t.Errorf("%s: Norm(%v) = %v", c.name, c.l, got)
		}
	}
}

// TestNormOfThreeRanges tries all triples of small ranges, also empty ones.
func TestNormOfThreeRanges(t *testing.T) {
	var all []api.Range
	for lo := range 6 {
		for hi := range 6 {
			all = append(all, api.Range{Lo: lo, Hi: hi})
		}
	}
	for _, x := range all {
		for _, y := range all {
			for _, z := range all {
				l := []api.Range{x, y, z}
				checkNorm(t, l)
			}
		}
	}
}

// checkNorm compares Norm, Has and Size of ranges within 0..9 with what
// counting number by number gives.
func checkNorm(t *testing.T, l []api.Range) {
	t.Helper()
	bits, size := 0, 0
	for n := range 10 {
		in := slices.ContainsFunc(l, func(r api.Range) bool { return r.Lo <= n && n <= r.Hi })
		if in {
			bits |= 1 << n
			size++
		}
		if Has(l, n) != in {
			t.Errorf("Has(%v, %d) = %v", l, n, !in)
		}
	}
	if got := Norm(l); !slices.Equal(got, setOf(bits)) || !Good(got) {
		t.Errorf("Norm(%v) = %v", l, got)
	}
	if got := Size(l); got != size {
		t.Errorf("Size(%v) = %d", l, got)
	}
}

func TestNormOfManyRanges(t *testing.T) {
	var apart, dense []api.Range
	for i := range 3000 {
		// 7 and 3000 have no common factor: this is every number below 3000, out of order.
		n := i * 7 % 3000
		apart = append(apart, api.Range{Lo: 2 * n, Hi: 2 * n})
		dense = append(dense, api.Range{Lo: n, Hi: n})
	}
	if got := Norm(apart); len(got) != 3000 || !Good(got) || got[2999] != (api.Range{Lo: 5998, Hi: 5998}) {
		t.Errorf("Norm of numbers that are apart has %d ranges", len(got))
	}
	if got := Norm(dense); !slices.Equal(got, ranges(0, 2999)) {
		t.Errorf("Norm of all numbers below 3000 has %d ranges", len(got))
	}
}

func TestHas(t *testing.T) {
	cases := []struct {
		name string
		l    []api.Range
		n    int
		want bool
	}{
		{"nil", nil, 0, false},
		{"below", ranges(1, 5, 8, 9), 0, false},
		{"Lo", ranges(1, 5, 8, 9), 1, true},
		{"within", ranges(1, 5, 8, 9), 3, true},
		{"Hi", ranges(1, 5, 8, 9), 5, true},
		{"between", ranges(1, 5, 8, 9), 6, false},
		{"last Hi", ranges(1, 5, 8, 9), 9, true},
		{"above", ranges(1, 5, 8, 9), 10, false},
		{"in a range out of order", ranges(8, 9, 1, 5), 3, true},
		{"in a range within another", ranges(1, 9, 3, 4), 6, true},
		{"behind an empty range", ranges(5, 1, 2, 3), 2, true},
		{"in an empty range", ranges(5, 1), 3, false},
		{"an end of an empty range", ranges(5, 1), 5, false},
		{"beyond MaxNumber", ranges(0, 3*top), 2 * top, true},
		{"beyond -MaxNumber", ranges(-3*top, 0), -2 * top, true},
		{"greatest", ranges(math.MinInt, math.MaxInt), math.MaxInt, true},
		{"smallest", ranges(math.MinInt, math.MaxInt), math.MinInt, true},
		{"greatest alone", ranges(math.MaxInt, math.MaxInt), math.MaxInt, true},
		{"not the greatest", ranges(math.MinInt, math.MaxInt-1), math.MaxInt, false},
		{"not the smallest", ranges(math.MinInt+1, math.MaxInt), math.MinInt, false},
		{"extreme ends that are empty", ranges(math.MaxInt, math.MinInt), 0, false},
	}
	for _, c := range cases {
		if got := Has(c.l, c.n); got != c.want {
			t.Errorf("%s: Has(%v, %d) = %v", c.name, c.l, c.n, got)
		}
	}
}

func TestSize(t *testing.T) {
	cases := []struct {
		name string
		l    []api.Range
		want int
	}{
		{"nil", nil, 0},
		{"one number", ranges(4, 4), 1},
		{"a set", ranges(1, 5, 8, 12, 20, 20), 11},
		{"across zero", ranges(-2, 2), 5},
		{"overlapping", ranges(1, 3, 2, 4), 4},
		{"twice the same", ranges(1, 3, 1, 3), 3},
		{"touching", ranges(4, 6, 1, 3), 6},
		{"empty", ranges(9, 1), 0},
		{"empty beside another", ranges(9, 1, 1, 2), 2},
		{"all numbers", ranges(-top, top), 2*top + 1},
		{"more than all numbers", ranges(math.MinInt, math.MaxInt), 2*top + 1},
		{"out of bounds", ranges(top+1, math.MaxInt), 0},
		{"partly out of bounds", ranges(top-1, top+5, -top-5, -top), 3},
	}
	for _, c := range cases {
		if got := Size(c.l); got != c.want {
			t.Errorf("%s: Size(%v) = %d", c.name, c.l, got)
		}
	}
}

// P1.3

func TestBothAndLess(t *testing.T) {
	cases := []struct {
		name             string
		a, b, both, less []api.Range
	}{
		{"nothing", nil, nil, nil, nil},
		{"nothing first", nil, ranges(1, 5), nil, nil},
		{"nothing second", ranges(1, 5, 8, 9), nil, nil, ranges(1, 5, 8, 9)},
		{"the same", ranges(1, 5, 8, 9), ranges(1, 5, 8, 9), ranges(1, 5, 8, 9), nil},
		{"apart", ranges(1, 3), ranges(5, 9), nil, ranges(1, 3)},
		{"apart the other way", ranges(5, 9), ranges(1, 3), nil, ranges(5, 9)},
		{"touching", ranges(1, 3), ranges(4, 9), nil, ranges(1, 3)},
		{"touching the other way", ranges(4, 9), ranges(1, 3), nil, ranges(4, 9)},
		{"one number in common", ranges(1, 4), ranges(4, 9), ranges(4, 4), ranges(1, 3)},
		{"overlapping below", ranges(5, 9), ranges(1, 6), ranges(5, 6), ranges(7, 9)},
		{"second within first", ranges(1, 9), ranges(4, 5), ranges(4, 5), ranges(1, 3, 6, 9)},
		{"first within second", ranges(4, 5), ranges(1, 9), ranges(4, 5), nil},
		{"same Lo", ranges(1, 9), ranges(1, 3), ranges(1, 3), ranges(4, 9)},
		{"same Hi", ranges(1, 9), ranges(7, 9), ranges(7, 9), ranges(1, 6)},
		{"many holes", ranges(0, 9), ranges(0, 0, 2, 3, 9, 9), ranges(0, 0, 2, 3, 9, 9), ranges(1, 1, 4, 8)},
		{"one covers many", ranges(1, 2, 4, 5, 7, 9), ranges(2, 7), ranges(2, 2, 4, 5, 7, 7), ranges(1, 1, 8, 9)},
		{"interleaved", ranges(1, 5, 8, 12, 20, 20), ranges(0, 1, 4, 9, 12, 30),
			ranges(1, 1, 4, 5, 8, 9, 12, 12, 20, 20), ranges(2, 3, 10, 11)},
		{"the bounds", ranges(-top, top), ranges(-top, -top, top, top),
			ranges(-top, -top, top, top), ranges(-top+1, top-1)},
		{"the bounds from within", ranges(-top, top), ranges(-top+1, top-1),
			ranges(-top+1, top-1), ranges(-top, -top, top, top)},
	}
	for _, c := range cases {
		if got := Both(c.a, c.b); !slices.Equal(got, c.both) {
			t.Errorf("%s: Both(%v, %v) = %v", c.name, c.a, c.b, got)
		}
		if got := Both(c.b, c.a); !slices.Equal(got, c.both) {
			t.Errorf("%s: Both(%v, %v) = %v", c.name, c.b, c.a, got)
		}
		if got := Less(c.a, c.b); !slices.Equal(got, c.less) {
			t.Errorf("%s: Less(%v, %v) = %v", c.name, c.a, c.b, got)
		}
	}
}

func TestBothAndLessOfAllSmallSets(t *testing.T) {
	var sets [1 << 10][]api.Range
	for bits := range sets {
		sets[bits] = setOf(bits)
	}
	for x, a := range sets {
		for y, b := range sets {
			if got := Both(a, b); !slices.Equal(got, sets[x&y]) {
				t.Fatalf("Both(%v, %v) = %v", a, b, got)
			}
			if got := Less(a, b); !slices.Equal(got, sets[x&^y]) {
				t.Fatalf("Less(%v, %v) = %v", a, b, got)
			}
		}
	}
}

// What holds everywhere

// TestAnyListsTerminate has no expectation of the results: Both and Less are
// specified for sets only, but must not panic or hang for other lists either.
func TestAnyListsTerminate(t *testing.T) {
	lists := append(wild(), nil, ranges(1, 2, 4, 5), ranges(-top, top))
	for _, a := range lists {
		for _, b := range lists {
			Both(a, b)
			Less(a, b)
		}
		if l := Norm(a); !Good(l) {
			t.Errorf("Norm(%v) = %v, which is no set", a, l)
		}
	}
}

func TestArgumentsAreNotModified(t *testing.T) {
	lists := append(wild(), ranges(8, 9, 1, 2), ranges(1, 5, 8, 12, 20, 20), ranges(0, 1, 4, 9, 12, 30))
	for _, x := range lists {
		for _, y := range lists {
			a, wholeA := withSpare(x)
			b, wholeB := withSpare(y)
			keptA, keptB := slices.Clone(wholeA), slices.Clone(wholeB)
			Good(a)
			Norm(a)
			Has(a, 3)
			Size(a)
			Both(a, b)
			Less(a, b)
			if !slices.Equal(wholeA, keptA) || !slices.Equal(wholeB, keptB) {
				t.Errorf("%v and %v became %v and %v", keptA, keptB, wholeA, wholeB)
			}
		}
	}
}

// withSpare returns a copy of l that has spare capacity, and the same memory
// with the spare part, in which a mark would show a write.
func withSpare(l []api.Range) (part, whole []api.Range) {
	whole = slices.Clone(l)
	for range len(l) + 2 {
		whole = append(whole, api.Range{Lo: 77, Hi: 88})
	}
	return whole[:len(l)], whole
}

func TestResultsAreNewMemory(t *testing.T) {
	a, b := ranges(1, 5, 8, 9), ranges(1, 9)
	for _, l := range [][]api.Range{Norm(a), Both(a, b), Both(b, a), Less(a, nil), Less(a, ranges(20, 30))} {
		if len(l) == 0 {
			t.Fatal("an empty result shows nothing")
		}
		for i := range l {
			l[i] = api.Range{Lo: 77, Hi: 88}
		}
	}
	if !slices.Equal(a, ranges(1, 5, 8, 9)) || !slices.Equal(b, ranges(1, 9)) {
		t.Errorf("the arguments became %v and %v", a, b)
	}
}
