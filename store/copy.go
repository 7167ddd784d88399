package store

import (
	"slices"

	"ratebook/api"
)

// copySession returns a copy of x that shares no memory with it.
func copySession(x api.Session) api.Session {
	x.Mine = copyBook(x.Mine)
	x.Gone = slices.Clone(x.Gone)
	x.Read = slices.Clone(x.Read)
	return x
}

// copyBook returns a copy of b that shares no memory with it.
func copyBook(b api.Book) api.Book {
	out := api.Book{Domains: slices.Clone(b.Domains)}
	for _, t := range b.Tables {
		out.Tables = append(out.Tables, copyTable(t))
	}
	return out
}

// copyTable returns a copy of t that shares no memory with it.
func copyTable(t api.Table) api.Table {
	t.Inputs = slices.Clone(t.Inputs)
	t.Rules = slices.Clone(t.Rules)
	for i := range t.Rules {
		t.Rules[i].Cells = copyCells(t.Rules[i].Cells)
	}
	return t
}

// copyCells returns a copy of l that shares no memory with it.
func copyCells(l []api.Cell) []api.Cell {
	out := slices.Clone(l)
	for i := range out {
		out[i].Ranges = slices.Clone(out[i].Ranges)
	}
	return out
}
