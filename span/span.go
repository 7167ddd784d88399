// Package span implements sets of numbers: see ../../shared/doc/01-span.md.
package span

import (
	"cmp"
	"slices"

	"ratebook/api"
)

// Good reports whether l is a set: its ranges are within bounds, not empty,
// in increasing order, and do not touch.
func Good(l []api.Range) bool {
	for i, r := range l {
		if r.Lo < -api.MaxNumber || r.Hi > api.MaxNumber || empty(r) {
			return false
		}
		// The previous Hi is known to be within bounds, so that adding 1 cannot overflow.
		if i > 0 && r.Lo <= l[i-1].Hi+1 {
			return false
		}
	}
	return true
}

// Norm returns the set of all numbers within bounds that are in a range of l.
func Norm(l []api.Range) []api.Range {
	// clipped makes a new list, so that sorting does not modify the caller's.
	in := clipped(l)
	slices.SortFunc(in, func(a, b api.Range) int { return cmp.Compare(a.Lo, b.Lo) })
	return merge(in)
}

// Has reports whether n is in a range of l, which need not be a set.
func Has(l []api.Range, n int) bool {
	for _, r := range l {
		if r.Lo <= n && n <= r.Hi {
			return true
		}
	}
	return false
}

// Both returns the intersection of two sets.
func Both(a, b []api.Range) []api.Range {
	var out []api.Range
	i, j := 0, 0
	for i < len(a) && j < len(b) {
		out = add(out, api.Range{Lo: max(a[i].Lo, b[j].Lo), Hi: min(a[i].Hi, b[j].Hi)})
		// The range that ends first cannot meet anything further on in the other list.
		if a[i].Hi < b[j].Hi {
			i++
		} else {
			j++
		}
	}
	return out
}

// Less returns the set of all numbers that are in the set a and not in the set b.
func Less(a, b []api.Range) []api.Range {
	var out []api.Range
	j := 0
	for _, r := range a {
		for j < len(b) && b[j].Hi < r.Hi {
			out = add(out, api.Range{Lo: r.Lo, Hi: b[j].Lo - 1})
			r.Lo = max(r.Lo, b[j].Hi+1)
			j++
		}
		// A range of b that ends at the end of r or beyond stays current,
		// because it may cover a part of the next range of a as well.
		if j < len(b) {
			r.Hi = min(r.Hi, b[j].Lo-1)
		}
		out = add(out, r)
	}
	return out
}

// Size returns how many numbers Norm(l) contains.
func Size(l []api.Range) int {
	n := 0
	for _, r := range Norm(l) {
		n += r.Hi - r.Lo + 1
	}
	return n
}

// empty reports whether r contains no number.
func empty(r api.Range) bool {
	return r.Hi < r.Lo
}

// add appends r to l unless r is empty.
func add(l []api.Range, r api.Range) []api.Range {
	if empty(r) {
		return l
	}
	return append(l, r)
}

// clipped returns, in a new list, what of each range of l is within bounds.
func clipped(l []api.Range) []api.Range {
	var out []api.Range
	for _, r := range l {
		out = add(out, api.Range{Lo: max(r.Lo, -api.MaxNumber), Hi: min(r.Hi, api.MaxNumber)})
	}
	return out
}

// merge returns the set of the numbers in the ranges of l, which are within
// bounds, not empty, and sorted by their lower ends.
func merge(l []api.Range) []api.Range {
	var out []api.Range
	for _, r := range l {
		last := len(out) - 1
		// Ranges that only touch are also merged: a set has a gap between any two ranges.
		if last >= 0 && r.Lo <= out[last].Hi+1 {
			out[last].Hi = max(out[last].Hi, r.Hi)
		} else {
			out = append(out, r)
		}
	}
	return out
}
