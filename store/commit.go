package store

import (
	"slices"

	"ratebook/api"
	"ratebook/book"
)

// commit makes a new version of the changes of the session x, if it has any.
func (s *Store) commit(x api.Session) api.Reply {
	if name, ok := s.conflict(x); ok {
		return api.Reply{Code: api.ErrOld, Text: name}
	}
	if len(x.Gone) == 0 {
		return api.Reply{N: s.last()}
	}
	if s.last()+1 >= api.MaxStates {
		return api.Reply{Code: api.ErrFull}
	}
	next := View(s.version(s.last()), x)
	if name, at, code := book.Check(next); code != api.OK {
		return api.Reply{Code: code, Text: name, At: at}
	}
	s.later = append(s.later, next)
	return api.Reply{N: s.last()}
}

// conflict returns the first name that was changed since the session x began
// and on which it depends, and whether there is one.
func (s *Store) conflict(x api.Session) (string, bool) {
	for _, name := range s.changed(x.From) {
		if depends(x, name) {
			return name, true
		}
	}
	return "", false
}

// changed returns the names that were changed since version from, in increasing
// order.
func (s *Store) changed(from int) []string {
	var out []string
	// All steps count: a name that was changed back in the end was changed too.
	for n := from; n < s.last(); n++ {
		before, after := s.version(n), s.version(n+1)
		for _, name := range names(before, after) {
			if book.Show(before, name) != book.Show(after, name) {
				out = record(out, name)
			}
		}
	}
	return out
}

// depends reports whether the session x has written the name or, if it is
// strict, read it.
func depends(x api.Session, name string) bool {
	if slices.Contains(x.Gone, name) {
		return true
	}
	return x.Strict && (slices.Contains(x.Read, name) || slices.Contains(x.Read, everything))
}
