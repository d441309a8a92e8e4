package core

import (
	"slices"

	"gemot/amo"
	"gemot/api"
	"gemot/cont"
	"gemot/entry"
	"gemot/ident"
	"gemot/part"
	"gemot/store"
)

// The tables' names of their own: both are called Table, which one struct can't have twice.
type (
	calls = amo.Table
	waits = cont.Table
)

// state is what entries work on. It stands apart from Core, so that what its tables can do is not what a core can be asked for.
type state struct {
	*calls
	*waits
	store *store.Store
	dead  [api.MaxNodes]uint16 // of each node the greatest life that was killed; 0, which is no life, if none was
}

// follow does an entry that is right for the group, and tells what comes of it.
func (s *state) follow(e entry.Entry) []Act {
	switch e.Kind {
	case entry.Kill:
		s.kill(e.Victim)
	case entry.Back:
		if w, waited := s.Take(e.ID); waited {
			return s.back(w, e.Res)
		}
	case entry.Call, entry.Check:
		if s.begins(e) {
			return s.goOn(s.first(e))
		}
	}
	return nil
}

// kill notes that a process is dead. A life ahead of one that was killed before is dead already.
func (s *state) kill(p ident.Proc) {
	s.dead[p.Node] = max(s.dead[p.Node], p.Life)
}

func (s *state) isDead(p ident.Proc) bool {
	return p.Node < api.MaxNodes && s.dead[p.Node] > 0 && p.Life <= s.dead[p.Node]
}

// begins notes a call as running, if it may begin. What its client tells of its floor counts, whether it may or not; of a dead one nothing does.
func (s *state) begins(e entry.Entry) bool {
	if s.isDead(e.ID.Client) {
		return false
	}
	s.Raise(e.ID.Client, e.Floor)
	return s.Begin(e.ID) == api.OK
}

// first does the first part of a call that has begun, and tells how it stands then.
func (s *state) first(e entry.Entry) cont.Cont {
	p := e.Parts[0]
	w := cont.Cont{ID: e.ID, First: p, Rest: e.Parts[1:], Old: s.store.Get(p.Key), Floor: s.Floor(e.ID.Client)}
	switch e.Kind {
	case entry.Call:
		e.Res, _ = s.store.Do(p) // what it writes is written by that: from here on it is as a Check without writes
		fallthrough
	case entry.Check:
		s.store.Apply(e.Writes)
		w.Res = e.Res
	}
	return w
}

// goOn asks for the rest of a call whose first part was done, or ends it, if there is no rest, or no sense in it.
func (s *state) goOn(w cont.Cont) []Act {
	if w.Res.Code != part.Done || len(w.Rest) == 0 {
		return s.finish(w.ID, w.Res)
	}
	child, e := s.Add(w)
	if e != api.OK {
		return s.back(w, part.Res{Code: part.Full})
	}
	return []Act{ask(child, w)}
}

// back ends a call whose rest came back, and takes its first part back, if the rest was not done.
func (s *state) back(w cont.Cont, rest part.Res) []Act {
	if rest.Code != part.Done {
		s.store.Undo(w.First, w.Old)
	}
	return s.finish(w.ID, part.Join(w.Res, rest))
}

// finish ends a call with a result.
func (s *state) finish(d ident.ID, r part.Res) []Act {
	s.End(d, r)
	return []Act{{Kind: Reply, ID: d, Res: r}}
}

// ask is the act by which the rest of a call is asked for.
func ask(child ident.ID, w cont.Cont) Act {
	return Act{Kind: Ask, ID: child, Parts: slices.Clone(w.Rest), Floor: w.Floor}
}

func (s *state) clone() *state {
	return &state{calls: s.calls.Clone(), waits: s.waits.Clone(), store: s.store.Clone(), dead: s.dead}
}

func (s *state) same(t *state) bool {
	return s.calls.Same(t.calls) && s.waits.Same(t.waits) && s.store.Same(t.store) && s.dead == t.dead
}
