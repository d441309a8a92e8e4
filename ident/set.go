package ident

import (
	"maps"
	"slices"

	"gemot/api"
)

// Set has identifiers, most of them at most. One that NewSet did not make has no map, and takes none in.
type Set struct {
	most int
	in   map[ID]struct{}
}

// NewSet is a set without identifiers.
func NewSet(most int) *Set {
	return &Set{most: most, in: map[ID]struct{}{}}
}

// Add takes an identifier in.
func (s *Set) Add(d ID) api.Errno {
	if s == nil || s.in == nil || !d.Right() {
		return api.ErrArg
	}
	if s.Has(d) {
		return api.ErrThere
	}
	if s.Len() >= s.most {
		return api.ErrFull
	}
	s.in[d] = struct{}{}
	return api.OK
}

// Remove lets an identifier go.
func (s *Set) Remove(d ID) bool {
	if !s.Has(d) {
		return false
	}
	delete(s.in, d)
	return true
}

// Has tells whether an identifier is in.
func (s *Set) Has(d ID) bool {
	if s == nil {
		return false
	}
	_, in := s.in[d]
	return in
}

// Len is how many are in.
func (s *Set) Len() int {
	if s == nil {
		return 0
	}
	return len(s.in)
}

// All are those that are in, by their order.
func (s *Set) All() []ID {
	if s == nil {
		return nil
	}
	return slices.SortedFunc(maps.Keys(s.in), Compare)
}

// Under are those of one client's process, by their order.
func (s *Set) Under(p Proc) []ID {
	return slices.DeleteFunc(s.All(), func(d ID) bool { return d.Client != p })
}
