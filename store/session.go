package store

import (
	"slices"

	"ratebook/api"
	"ratebook/book"
	"ratebook/table"
	"ratebook/text"
)

// everything is the recorded name that stands for all names.
const everything = ""

// put inserts what a text describes into the changes of the session x.
func put(x *api.Session, s string) api.Reply {
	d, t, isTable, code := text.Parse(s)
	if code != api.OK {
		return api.Reply{Code: code}
	}
	if isTable {
		x.Mine = book.WithTable(x.Mine, t)
		x.Gone = record(x.Gone, t.Name)
	} else {
		x.Mine = book.With(x.Mine, d)
		x.Gone = record(x.Gone, d.Name)
	}
	return api.Reply{}
}

// drop removes a name from the book that the session x sees.
func drop(x *api.Session, name string) api.Reply {
	if !table.Named(name) {
		return api.Reply{Code: api.ErrForm}
	}
	x.Mine = book.Without(x.Mine, name)
	x.Gone = record(x.Gone, name)
	return api.Reply{}
}

// get returns the text of a name in the book that the session x sees.
func (s *Store) get(x *api.Session, name string) api.Reply {
	if !table.Named(name) {
		return api.Reply{Code: api.ErrForm}
	}
	// That there is no such name is also something that the session has read.
	x.Read = record(x.Read, name)
	shown := book.Show(s.seen(*x), name)
	if shown == "" {
		return api.Reply{Code: api.ErrNone}
	}
	return api.Reply{Text: shown}
}

// ask evaluates the book that the session x sees for the input in.
func (s *Store) ask(x *api.Session, in []int) api.Reply {
	seen := s.seen(*x)
	// The answers also depend on the names that the session has removed, because
	// they are not there.
	for _, name := range names(s.version(x.From), seen) {
		x.Read = record(x.Read, name)
	}
	if x.Strict {
		x.Read = record(x.Read, everything)
	}
	answers, code := book.Ask(seen, in)
	return api.Reply{Code: code, Answers: answers}
}

// seen returns the book that the session x sees.
func (s *Store) seen(x api.Session) api.Book {
	return View(s.version(x.From), x)
}

// record inserts a name into a list of names in increasing order, unless it is
// there already.
func record(l []string, name string) []string {
	place, found := slices.BinarySearch(l, name)
	if found {
		return l
	}
	return slices.Insert(l, place, name)
}

// names returns the names of all domains and tables of the books, in increasing
// order and each once.
func names(books ...api.Book) []string {
	var out []string
	for _, b := range books {
		for _, d := range b.Domains {
			out = record(out, d.Name)
		}
		for _, t := range b.Tables {
			out = record(out, t.Name)
		}
	}
	return out
}
