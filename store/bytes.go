package store

import (
	"gemot/api"
	"gemot/octet"
)

// The most keys, and the longest text, that are loaded. That is more than parts can make: Undo and Apply ask for no limit.
const (
	mostKeys = 4 * api.MaxKeys
	mostText = 255
)

// Put writes a store.
func (s *Store) Put(w *octet.Writer) {
	if !s.made() {
		return
	}
	w.U(uint64(s.Len()))
	for _, x := range s.All() {
		w.Text(x.Key)
		w.Text(x.Value)
	}
}

// Load reads a store; nil, if that can't be one that Put wrote. Keys that do not rise are an error of the Reader, too: bytes that would not come back are in a wrong form.
func Load(r *octet.Reader) *Store {
	s := New()
	last := ""
	for range r.U(mostKeys) {
		x := Write{Key: r.Text(mostText), Value: r.Text(mostText), Has: true}
		if s.Len() > 0 && x.Key <= last {
			r.Fail(api.ErrForm)
		}
		if r.Err() != api.OK {
			break
		}
		s.there[x.Key] = x
		last = x.Key
	}
	if r.Err() != api.OK {
		return nil
	}
	return s
}
