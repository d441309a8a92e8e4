package ident_test

import (
	"math"
	"math/rand"
	"slices"
	"testing"

	"gemot/api"
	"gemot/ident"
)

// P201: a nil Set, and one that NewSet did not make.
func TestP201NilAndUnmade(t *testing.T) {
	var none *ident.Set
	for name, s := range map[string]*ident.Set{"nil": none, "unmade": {}} {
		for _, d := range []ident.ID{id(one, 1), {}} {
			if e := s.Add(d); e != api.ErrArg {
				t.Errorf("%s: Add is %d", name, e)
			}
			if s.Remove(d) || s.Has(d) || s.Len() != 0 || len(s.All()) != 0 || len(s.Under(d.Client)) != 0 {
				t.Errorf("%s: something is in", name)
			}
		}
	}
}

// P204: Add, and what it answers where several errors apply.
func TestP204Add(t *testing.T) {
	s := ident.NewSet(2)
	a, b, c := id(one, 1), id(one, 1, ident.Step{}), id(one, 2)
	for _, w := range wrongOnes() {
		if s.Add(w) != api.ErrArg || s.Has(w) || s.Len() != 0 {
			t.Errorf("%v", w)
		}
	}
	steps := []struct {
		d    ident.ID
		want api.Errno
		size int
	}{
		{a, api.OK, 1}, {a, api.ErrThere, 1}, {b, api.OK, 2}, {b, api.ErrThere, 2}, {c, api.ErrFull, 2}, {a, api.ErrThere, 2}, {ident.ID{}, api.ErrArg, 2},
	}
	for _, x := range steps {
		if e := s.Add(x.d); e != x.want || s.Len() != x.size {
			t.Errorf("Add(%v): %d, then %d are in", x.d, e, s.Len())
		}
	}
	if !s.Has(a) || !s.Has(b) || s.Has(c) || s.Has(ident.ID{}) {
		t.Error("Has")
	}
}

// P204: most.
func TestP204Most(t *testing.T) {
	for _, most := range []int{0, -1, math.MinInt} {
		if s := ident.NewSet(most); s.Add(id(one, 1)) != api.ErrFull || s.Add(ident.ID{}) != api.ErrArg || s.Len() != 0 || s.Has(id(one, 1)) {
			t.Errorf("a set of %d", most)
		}
	}
	for _, most := range []int{1, 5, math.MaxInt} {
		s := ident.NewSet(most)
		for i := range min(most, 100) {
			if e := s.Add(id(one, uint32(i+1))); e != api.OK {
				t.Errorf("a set of %d: Add is %d", most, e)
			}
		}
	}
	if s := ident.NewSet(5); len(s.All()) != 0 || s.Len() != 0 {
		t.Error("a new set has something")
	}
}

// P204: Remove, and room for another one.
func TestP204Remove(t *testing.T) {
	s := ident.NewSet(1)
	a, b := id(one, 1), id(one, 2)
	s.Add(a)
	if s.Remove(b) || s.Remove(ident.ID{}) || s.Len() != 1 {
		t.Error("what was not in is out")
	}
	if !s.Remove(a) || s.Has(a) || s.Len() != 0 || s.Remove(a) || len(s.All()) != 0 {
		t.Error("Remove")
	}
	if s.Add(b) != api.OK || s.Add(a) != api.ErrFull || !s.Has(b) {
		t.Error("room was not given back")
	}
}

// P204: All and Under, by their order.
func TestP204AllAndUnder(t *testing.T) {
	l := rightOnes()
	rand.New(rand.NewSource(204)).Shuffle(len(l), func(i, j int) { l[i], l[j] = l[j], l[i] })
	s := ident.NewSet(len(l))
	for _, d := range l {
		s.Add(d)
	}
	slices.SortFunc(l, ident.Compare)
	if !slices.Equal(s.All(), l) {
		t.Error("All")
	}
	for _, p := range []ident.Proc{{Node: 0, Life: 1}, {Node: 0, Life: math.MaxUint16}, {Node: 15, Life: 1}, {Node: 0, Life: 2}, {Node: 15}, {}} {
		var want []ident.ID
		for _, d := range l {
			if d.Client == p {
				want = append(want, d)
			}
		}
		if got := s.Under(p); !slices.Equal(got, want) {
			t.Errorf("Under(%v): %d, not %d", p, len(got), len(want))
		}
	}
}

// P201: what is answered shares nothing, not even room.
func TestP201SetApart(t *testing.T) {
	s := ident.NewSet(9)
	for i := range 3 {
		s.Add(id(one, uint32(i+1)))
	}
	lists := [][]ident.ID{s.All(), s.All(), s.Under(one), s.Under(one)}
	for _, l := range lists {
		l[0] = ident.ID{}
		_ = append(l, id(one, 9))
		clear(l)
	}
	if !s.Has(id(one, 1)) || s.Has(ident.ID{}) || s.All()[0] != id(one, 1) || s.Under(one)[0] != id(one, 1) || s.Len() != 3 {
		t.Error("the set has changed")
	}
	other := ident.NewSet(9)
	other.Add(id(one, 7))
	if s.Has(id(one, 7)) || other.Has(id(one, 1)) {
		t.Error("two sets share")
	}
}

// P204: any calls, held against a list.
func TestP204AnyCalls(t *testing.T) {
	rnd := rand.New(rand.NewSource(2040))
	const most = 6
	s, l := ident.NewSet(most), []ident.ID{}
	for range 20000 {
		d := id(ident.Proc{Node: uint8(rnd.Intn(2)), Life: 1}, uint32(1+rnd.Intn(3)))
		if rnd.Intn(2) == 0 {
			d, _ = ident.Child(d, 1, uint8(rnd.Intn(2)))
		}
		at := slices.Index(l, d)
		if rnd.Intn(3) == 0 {
			if s.Remove(d) != (at >= 0) {
				t.Fatal("Remove")
			}
			l = slices.DeleteFunc(l, func(x ident.ID) bool { return x == d })
		} else {
			want := api.OK
			if at >= 0 {
				want = api.ErrThere
			} else if len(l) == most {
				want = api.ErrFull
			} else {
				l = append(l, d)
			}
			if e := s.Add(d); e != want {
				t.Fatalf("Add: %d, not %d", e, want)
			}
		}
		slices.SortFunc(l, ident.Compare)
		if !slices.Equal(s.All(), l) || s.Len() != len(l) || s.Has(d) != slices.Contains(l, d) {
			t.Fatalf("%v, not %v", s.All(), l)
		}
	}
}
