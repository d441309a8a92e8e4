package store

import (
	"strconv"

	"gemot/api"
	"gemot/part"
)

// Do does a part, and tells the writes that it was.
func (s *Store) Do(p part.Part) (part.Res, []Write) {
	if !s.made() || !p.Right() {
		return part.Res{Code: part.Odd}, nil
	}
	was := s.Get(p.Key)
	res, then := outcome(p, was)
	if res.Code != part.Done || p.Kind == part.Read {
		return res, nil
	}
	if then.Has && !was.Has && s.Len() >= api.MaxKeys {
		return part.Res{Code: part.Full}, nil
	}
	return res, s.write(then)
}

// outcome is what a right part comes to where its key is was, and what the key is then; whether there is room for it is not asked.
func outcome(p part.Part, was Write) (part.Res, Write) {
	res, then := part.Res{}, was
	n := p.N
	switch p.Kind {
	case part.Take:
		n = -n // there is such a number: N is not below 0
		fallthrough
	case part.Add:
		sum, ok := plus(was, n)
		if !ok {
			return part.Res{Code: part.Odd}, was
		}
		if p.Kind == part.Take && sum < 0 {
			return part.Res{Code: part.Poor}, was
		}
		then = numbered(p.Key, sum)
		res.Value = then.Value
	case part.Write:
		then = Write{Key: p.Key, Value: p.Value, Has: true}
	case part.Erase:
		then = Write{Key: p.Key}
		fallthrough
	case part.Read:
		res.Value = was.Value
	}
	return res, then
}

// Undo takes a part back that was Done when its key was old, and tells the writes that were done.
func (s *Store) Undo(p part.Part, old Write) []Write {
	if !s.made() || !p.Right() {
		return nil
	}
	n := p.N
	switch p.Kind {
	case part.Add:
		n = -n
		fallthrough
	case part.Take:
		// Others may have counted meanwhile: what they did stays, so that the number alone is taken back, not the value of then.
		sum, ok := plus(s.Get(p.Key), n)
		if !ok {
			return nil
		}
		return s.write(numbered(p.Key, sum))
	case part.Erase, part.Write:
		if !old.Has {
			return s.write(Write{Key: p.Key})
		}
		return s.write(Write{Key: p.Key, Value: old.Value, Has: true})
	}
	return nil
}

// write does one write, and tells it as the list that is answered.
func (s *Store) write(w Write) []Write {
	l := []Write{w}
	s.Apply(l)
	return l
}

// plus is the number of a key and n, and whether the key has a number and 64 bits hold what they come to.
func plus(w Write, n int64) (int64, bool) {
	v, ok := number(w)
	sum := v + n
	if !ok || (sum < v) != (n < 0) {
		return 0, false
	}
	return sum, true
}

// number is what a key counts: 0, if it is not there.
func number(w Write) (int64, bool) {
	if !w.Has {
		return 0, true
	}
	v, e := strconv.ParseInt(w.Value, 10, 64)
	if e != nil || strconv.FormatInt(v, 10) != w.Value { // signs and noughts that a number doesn't need make it none
		return 0, false
	}
	return v, true
}

// numbered is the write of a number.
func numbered(key string, v int64) Write {
	return Write{Key: key, Value: strconv.FormatInt(v, 10), Has: true}
}
