package book

import (
	"slices"

	"ratebook/api"
	"ratebook/table"
	"ratebook/text"
)

// Order returns the names of all tables, each behind those that it depends on:
// always the first table that is not placed yet and depends on no such table.
// It returns false if tables depend on each other.
func Order(b api.Book) ([]string, bool) {
	waiting := map[string]bool{}
	for _, t := range b.Tables {
		waiting[t.Name] = true
	}
	var names []string
	for len(waiting) > 0 {
		i := slices.IndexFunc(b.Tables, func(t api.Table) bool { return waiting[t.Name] && !waitsFor(t, waiting) })
		if i < 0 {
			return nil, false
		}
		names = append(names, b.Tables[i].Name)
		delete(waiting, b.Tables[i].Name)
	}
	return names, true
}

// Check returns the first error of a book. With ErrNone it also returns the
// name of the table, and with ErrClash and ErrGap the name and the input.
func Check(b api.Book) (string, []int, api.Errno) {
	if len(b.Domains) > api.MaxDomains || len(b.Tables) > api.MaxTables {
		return "", nil, api.ErrFull
	}
	if !goodDomains(b.Domains) || !goodTables(b) {
		return "", nil, api.ErrForm
	}
	for _, t := range b.Tables {
		if _, ok := Box(b, t); !ok {
			return t.Name, nil, api.ErrNone
		}
	}
	if _, ok := Order(b); !ok {
		return "", nil, api.ErrRing
	}
	for _, t := range b.Tables {
		if at, code := checkRules(b, t); code != api.OK {
			return t.Name, at, code
		}
	}
	return "", nil, api.OK
}

// Ask returns what each table of the book says if the domains have the numbers
// of the input in.
func Ask(b api.Book, in []int) ([]api.Answer, api.Errno) {
	if _, _, code := Check(b); code != api.OK {
		return nil, code
	}
	if len(in) != len(b.Domains) {
		return nil, api.ErrForm
	}
	known := map[string]api.Answer{}
	for i, d := range b.Domains {
		if in[i] < d.Lo || in[i] > d.Hi {
			return nil, api.ErrRange
		}
		known[d.Name] = api.Answer{Name: d.Name, Found: true, N: in[i]}
	}
	// Check has ensured that there is an order, in which the inputs of a table are known before it.
	names, _ := Order(b)
	for _, name := range names {
		t, _ := FindTable(b, name)
		known[name] = answer(t, known)
	}
	var out []api.Answer
	for _, t := range b.Tables {
		out = append(out, known[t.Name])
	}
	return out, api.OK
}

// waitsFor reports whether an input of t is one of the waiting tables.
func waitsFor(t api.Table, waiting map[string]bool) bool {
	return slices.ContainsFunc(t.Inputs, func(name string) bool { return waiting[name] })
}

// goodDomains reports whether all domains are good and their names strictly
// increase.
func goodDomains(l []api.Domain) bool {
	for i, d := range l {
		if !text.GoodDomain(d) || i > 0 && d.Name <= l[i-1].Name {
			return false
		}
	}
	return true
}

// goodTables reports whether all tables are good, their names strictly
// increase, and none of them is the name of a domain.
func goodTables(b api.Book) bool {
	for i, t := range b.Tables {
		if !table.Good(t) || i > 0 && t.Name <= b.Tables[i-1].Name {
			return false
		}
		if _, taken := FindDomain(b, t.Name); taken {
			return false
		}
	}
	return true
}

// checkRules returns ErrClash or ErrGap and the input for which t breaks its
// promises.
func checkRules(b api.Book, t api.Table) ([]int, api.Errno) {
	all, _ := Box(b, t)
	if at, ok := table.Clash(t, all); ok {
		return at, api.ErrClash
	}
	if !t.Complete {
		return nil, api.OK
	}
	if at, ok := table.Gap(t, all); ok {
		return at, api.ErrGap
	}
	return nil, api.OK
}

// answer returns what t says for the known values of its inputs, which is
// nothing if one of them has no value.
func answer(t api.Table, known map[string]api.Answer) api.Answer {
	out := api.Answer{Name: t.Name}
	var in []int
	for _, name := range t.Inputs {
		if !known[name].Found {
			return out
		}
		in = append(in, known[name].N)
	}
	// In a checked book Says returns no error: every value is in the range of its
	// input, and in the box of these ranges t has no clash.
	out.N, out.Found, _ = table.Says(t, in)
	return out
}
