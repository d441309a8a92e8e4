package store_test

import (
	"math"
	"slices"
	"strconv"
	"strings"
	"testing"

	"gemot/api"
	"gemot/octet"
	"gemot/part"
	"gemot/store"
)

var longKey = strings.Repeat("k", api.MaxKey)

// has is the write of a key that is there.
func has(key, value string) store.Write {
	return store.Write{Key: key, Value: value, Has: true}
}

// gone is the write of a key that is not there.
func gone(key string) store.Write {
	return store.Write{Key: key}
}

// of is a store with these keys.
func of(l ...store.Write) *store.Store {
	s := store.New()
	s.Apply(l)
	return s
}

// many is a store with n keys: 0, 1, .. with values 0, 1, ..
func many(n int) *store.Store {
	s := store.New()
	for i := range n {
		s.Apply([]store.Write{has(strconv.Itoa(i), strconv.Itoa(i))})
	}
	return s
}

// parts is one right part of each kind, at a key.
func parts(key string) []part.Part {
	return []part.Part{
		{Kind: part.Read, Key: key},
		{Kind: part.Write, Key: key, Value: "v"},
		{Kind: part.Add, Key: key, N: 1},
		{Kind: part.Take, Key: key},
		{Kind: part.Erase, Key: key},
	}
}

// wrong are parts that are not right.
func wrong() []part.Part {
	return []part.Part{
		{},
		{Kind: part.Read, Key: "a", Value: "x"},
		{Kind: part.Read, Key: "a", N: 1},
		{Kind: part.Read, Key: longKey + "k"},
		{Kind: part.Read, Key: "a", Group: api.MaxGroups},
		{Kind: part.Write, Key: "a", Value: strings.Repeat("v", api.MaxValue+1)},
		{Kind: part.Write, Key: "", Value: "v"},
		{Kind: part.Write, Key: "a", N: 1},
		{Kind: part.Add, Key: "a", N: -1},
		{Kind: part.Add, Key: "a", N: math.MinInt64},
		{Kind: part.Add, Key: "a", N: 1, Value: "x"},
		{Kind: part.Take, Key: "a", N: -1},
		{Kind: part.Take, Key: "a", N: math.MinInt64},
		{Kind: part.Take, N: 1},
		{Kind: part.Erase, Key: "a", Group: 255},
		{Kind: part.Erase, Key: "a", N: 1},
		{Kind: 5, Key: "a"},
		{Kind: 255, Key: "a", N: 1},
	}
}

// P401: a nil Store, and one that New did not make.
func TestP401NilAndUnmade(t *testing.T) {
	var none *store.Store
	for name, s := range map[string]*store.Store{"nil": none, "unmade": {}} {
		s.Apply([]store.Write{has("a", "5")})
		for _, p := range append(parts("a"), wrong()...) {
			if x, l := s.Do(p); x != (part.Res{Code: part.Odd}) || len(l) != 0 {
				t.Errorf("%s: Do(%v): %v, %v", name, p, x, l)
			}
			if l := s.Undo(p, has("a", "5")); len(l) != 0 {
				t.Errorf("%s: Undo(%v): %v", name, p, l)
			}
		}
		if x := s.Get("a"); x != gone("a") {
			t.Errorf("%s: Get: %v", name, x)
		}
		if s.Len() != 0 || len(s.All()) != 0 || s.Clone() != nil {
			t.Errorf("%s: something is there", name)
		}
		w := &octet.Writer{}
		s.Put(w)
		if len(w.Bytes()) != 0 {
			t.Errorf("%s: Put writes %q", name, w.Bytes())
		}
		if !s.Same(none) || !s.Same(&store.Store{}) || !s.Same(s) {
			t.Errorf("%s: not the same as another one that New did not make", name)
		}
		if made := store.New(); s.Same(made) || made.Same(s) {
			t.Errorf("%s: the same as one that New made", name)
		}
	}
	of(has("a", "5")).Put(nil)
	for _, r := range []*octet.Reader{nil, {}} {
		if store.Load(r) != nil {
			t.Error("Load of a Reader that Read did not make")
		}
	}
}

// P401: what is handed in is not changed and not kept, what is answered is apart.
func TestP401Apart(t *testing.T) {
	s := store.New()
	room := []store.Write{has("a", "1"), has("b", "2"), has("c", "3")}
	s.Apply(room[:2])
	if !slices.Equal(room, []store.Write{has("a", "1"), has("b", "2"), has("c", "3")}) {
		t.Error("Apply changed what was handed in")
	}
	room[0], room[1] = has("x", "8"), has("a", "9")
	all := s.All()
	want := []store.Write{has("a", "1"), has("b", "2")}
	if !slices.Equal(all, want) {
		t.Errorf("the list was kept: %v", all)
	}
	all[0] = has("z", "7")
	_ = append(all[:1], has("y", "6"))
	_, did := s.Do(part.Part{Kind: part.Add, Key: "a", N: 1})
	undid := s.Undo(part.Part{Kind: part.Add, Key: "a", N: 1}, has("a", "1"))
	_, again := s.Do(part.Part{Kind: part.Erase, Key: "c"})
	if did[0] != has("a", "2") || undid[0] != has("a", "1") || again[0] != gone("c") {
		t.Errorf("one list is another: %v, %v, %v", did, undid, again)
	}
	did[0], undid[0], again[0] = has("b", "no"), has("b", "no"), has("c", "no")
	if all = s.All(); !slices.Equal(all, want) {
		t.Errorf("what was answered is the store's own: %v", all)
	}
}

// P404: Get, Apply, Len and All.
func TestP404Writes(t *testing.T) {
	s := store.New()
	if s.Len() != 0 || len(s.All()) != 0 || s.Get("a") != gone("a") || s.Get("") != gone("") {
		t.Error("a new store has something")
	}
	s.Apply(nil)
	s.Apply([]store.Write{})
	long := strings.Repeat("long", 1000)
	steps := []struct{ apply, all []store.Write }{
		{[]store.Write{has("b", "1")}, []store.Write{has("b", "1")}},
		{[]store.Write{has("a", ""), has("b", "2")}, []store.Write{has("a", ""), has("b", "2")}},
		{[]store.Write{has("c", "1"), gone("c"), has("c", "2"), has("c", "3")}, []store.Write{has("a", ""), has("b", "2"), has("c", "3")}},
		{[]store.Write{has("c", "4"), gone("c"), gone("b")}, []store.Write{has("a", "")}},
		{[]store.Write{gone("b"), gone("")}, []store.Write{has("a", "")}},
		{[]store.Write{{Key: "a", Value: "x"}}, nil}, // not there is not there, whatever its Value
		{[]store.Write{{Key: "b", Value: "x"}}, nil},
		{[]store.Write{has("", "none"), has(long, long), has("\xff", "\x00"), has("a\x00", "1"), has("a", "2"), has("Z", "3"), has("é", "4")},
			[]store.Write{has("", "none"), has("Z", "3"), has("a", "2"), has("a\x00", "1"), has(long, long), has("é", "4"), has("\xff", "\x00")}},
		{[]store.Write{gone(""), gone(long), gone("\xff")}, []store.Write{has("Z", "3"), has("a", "2"), has("a\x00", "1"), has("é", "4")}},
	}
	for i, x := range steps {
		s.Apply(x.apply)
		if !slices.Equal(s.All(), x.all) || s.Len() != len(x.all) {
			t.Errorf("step %d: %d are there: %v", i, s.Len(), s.All())
		}
		for _, w := range x.all {
			if s.Get(w.Key) != w {
				t.Errorf("step %d: Get(%q): %v", i, w.Key, s.Get(w.Key))
			}
		}
		for _, w := range x.apply {
			there := slices.ContainsFunc(x.all, func(y store.Write) bool { return y.Key == w.Key })
			if !there && s.Get(w.Key) != gone(w.Key) {
				t.Errorf("step %d: Get(%q): %v", i, w.Key, s.Get(w.Key))
			}
		}
	}
}

// P404: Apply asks for no limit, and All is sorted however many there are.
func TestP404Many(t *testing.T) {
	s := many(5 * api.MaxKeys)
	if s.Len() != 5*api.MaxKeys {
		t.Errorf("%d are there", s.Len())
	}
	l := s.All()
	if len(l) != s.Len() || !slices.IsSortedFunc(l, func(a, b store.Write) int { return strings.Compare(a.Key, b.Key) }) {
		t.Error("All does not rise")
	}
	for _, w := range l {
		if w != has(w.Key, w.Key) {
			t.Errorf("%v is there", w)
		}
	}
}

// P404: a clone has the same, and shares nothing.
func TestP404Clone(t *testing.T) {
	s := of(has("a", "1"), has("b", "2"))
	c := s.Clone()
	if c == s || !c.Same(s) || !slices.Equal(c.All(), s.All()) {
		t.Error("Clone is not the same")
	}
	c.Do(part.Part{Kind: part.Add, Key: "a", N: 1})
	c.Apply([]store.Write{gone("b"), has("c", "3")})
	if !slices.Equal(s.All(), []store.Write{has("a", "1"), has("b", "2")}) {
		t.Errorf("what was done to the clone was done to the store: %v", s.All())
	}
	s.Undo(part.Part{Kind: part.Write, Key: "a", Value: "1"}, gone("a"))
	if !slices.Equal(c.All(), []store.Write{has("a", "2"), has("c", "3")}) {
		t.Errorf("what was done to the store was done to the clone: %v", c.All())
	}
	e := store.New().Clone()
	e.Apply([]store.Write{has("a", "1")})
	if e.Len() != 1 {
		t.Error("the clone of an empty store keeps nothing")
	}
}

// P404: Same.
func TestP404Same(t *testing.T) {
	stores := [][]store.Write{
		nil,
		{has("a", "")},
		{has("a", "1")},
		{has("b", "1")},
		{has("a", "1"), has("b", "1")},
		{has("a", "1"), has("b", "2")},
		{has("a", "1"), has("c", "1")},
		{has("", "")},
	}
	for i, x := range stores {
		for j, y := range stores {
			if of(x...).Same(of(y...)) != (i == j) {
				t.Errorf("Same of %v and %v", x, y)
			}
		}
	}
	if !of(has("a", "1"), has("b", "2")).Same(of(has("b", "1"), has("c", "3"), has("b", "2"), gone("c"), has("a", "1"))) {
		t.Error("it matters how a store came to be")
	}
	s := of(has("a", "1"))
	if !s.Same(s) {
		t.Error("a store is not the same as itself")
	}
}
