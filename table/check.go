package table

import (
	"slices"

	"ratebook/api"
	"ratebook/box"
	"ratebook/span"
)

// Area returns the box of all inputs in the box all that the rule r matches,
// and whether there are any.
func Area(r api.Rule, all api.Box) (api.Box, bool) {
	if len(r.Cells) != len(all) || !box.Good(all, len(all)) {
		return nil, false
	}
	var out api.Box
	for i, c := range r.Cells {
		set := part(c, all[i])
		if len(set) == 0 {
			return nil, false
		}
		out = append(out, set)
	}
	return out, true
}

// Gap returns the smallest input in the box all for which no rule of t matches,
// and whether there is one.
func Gap(t api.Table, all api.Box) ([]int, bool) {
	// Count gives a result, 0, even if no rule matches.
	if t.Policy == api.Count || !fits(t, all) {
		return nil, false
	}
	var areas []api.Box
	for _, r := range t.Rules {
		if area, ok := Area(r, all); ok {
			areas = append(areas, area)
		}
	}
	return smallest(box.Rest(all, areas))
}

// Clash returns the smallest input in the box all for which Says returns
// ErrTwo, and whether there is one.
func Clash(t api.Table, all api.Box) ([]int, bool) {
	if !fits(t, all) {
		return nil, false
	}
	// Wherever the matching rules are in conflict, two of them are.
	var conflicts []api.Box
	for i, a := range t.Rules {
		for _, b := range t.Rules[:i] {
			if !forbids(t.Policy, a.Out, b.Out) {
				continue
			}
			if common, ok := overlap(a, b, all); ok {
				conflicts = append(conflicts, common)
			}
		}
	}
	return smallest(conflicts)
}

// part returns the set of all numbers of a set for which the cell c holds.
func part(c api.Cell, set []api.Range) []api.Range {
	if len(c.Ranges) == 0 {
		return slices.Clone(set)
	}
	// The rule need not be one of a good table, so its ranges may not be a set.
	ranges := span.Norm(c.Ranges)
	if c.Not {
		return span.Less(set, ranges)
	}
	return span.Both(set, ranges)
}

// fits reports whether t is good and all is a good box with one set per input.
func fits(t api.Table, all api.Box) bool {
	return Good(t) && box.Good(all, len(t.Inputs))
}

// overlap returns the box of all inputs in the box all that both rules match,
// and whether there are any.
func overlap(a, b api.Rule, all api.Box) (api.Box, bool) {
	area, ok := Area(a, all)
	if !ok {
		return nil, false
	}
	return Area(b, area)
}

// smallest returns the smallest input in any of the boxes, and whether there is
// a box.
func smallest(l []api.Box) ([]int, bool) {
	if len(l) == 0 {
		return nil, false
	}
	// The smallest input of a box has the smallest number of each of its sets.
	least := box.Point(l[0])
	for _, b := range l[1:] {
		if point := box.Point(b); slices.Compare(point, least) < 0 {
			least = point
		}
	}
	return least, true
}
