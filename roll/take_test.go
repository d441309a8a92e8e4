package roll_test

import (
	"math"
	"testing"

	"gemot/api"
	"gemot/entry"
)

// taking is a Take by one that has the calls 3, 4 behind a base of 2 and has committed 3, and what stands behind it.
type taking struct {
	name            string
	from, first, n  int // the calls from first on
	told            int
	ok              bool
	length, commit  int
	shut, committed int // what it comes to where it is shut
}

// do is that Take, done once and then once more, which changes nothing.
func (c taking) do(t *testing.T, shut bool) {
	t.Helper()
	r := made(t, 3, 1, 2)
	if !r.Take(2, calls(3, 2), 3) {
		t.Fatal("it takes")
	}
	name, length, commit := c.name, c.length, c.commit
	if shut {
		r.Shut()
		name, length, commit = c.name+", shut", c.shut, c.committed
	}
	for range 2 {
		if r.Take(c.from, calls(c.first, c.n), c.told) != c.ok {
			t.Errorf("%s: not %v", name, c.ok)
		}
		is(t, name, r, length, 2, commit)
	}
	if r.Open() == shut {
		t.Errorf("%s: is it open", name)
	}
}

// P1203: what is put behind what is there, and what is committed then.
func TestP1203Take(t *testing.T) {
	cases := []taking{
		{"behind what is there", 4, 5, 2, 3, true, 6, 3, 4, 3},
		{"nothing", 4, 5, 0, 3, true, 4, 3, 4, 3},
		{"nothing, from elsewhere", 3, 4, 0, 0, true, 4, 3, 4, 3},
		{"some is there", 3, 4, 3, 3, true, 6, 3, 4, 3},
		{"all is there", 2, 3, 2, 3, true, 4, 3, 4, 3},
		{"all is there, and more", 2, 3, 3, 3, true, 5, 3, 4, 3},
		{"less than is there", 2, 3, 1, 3, true, 4, 3, 4, 3},
		{"less than is there, from between", 3, 4, 1, 0, true, 4, 3, 4, 3},
		{"from the length, one", 4, 5, 1, 0, true, 5, 3, 4, 3},
		{"from behind the length", 5, 6, 2, 4, false, 4, 3, 4, 3},
		{"from behind the length, nothing", 5, 6, 0, 4, false, 4, 3, 4, 3},
		{"from below the base", 1, 2, 5, 4, false, 4, 3, 4, 3},
		{"from below the base, nothing", 1, 2, 0, 4, false, 4, 3, 4, 3},
		{"from the beginning", 0, 1, 5, 4, false, 4, 3, 4, 3},
		{"from below 0", -1, 1, 6, 4, false, 4, 3, 4, 3},
		{"from far below 0", math.MinInt, 1, 3, 4, false, 4, 3, 4, 3},
		{"from far behind", math.MaxInt, 1, 3, 4, false, 4, 3, 4, 3},
		{"commit of what is there", 4, 5, 0, 4, true, 4, 4, 4, 4},
		{"commit of what comes", 4, 5, 2, 6, true, 6, 6, 4, 4},
		{"commit of some of it", 4, 5, 2, 5, true, 6, 5, 4, 4},
		{"commit of more than comes", 4, 5, 2, 7, true, 6, 6, 4, 4},
		{"commit of far more", 4, 5, 1, math.MaxInt, true, 5, 5, 4, 4},
		{"commit of more, and nothing comes", 3, 4, 0, 99, true, 4, 4, 4, 4},
		{"commit of less", 4, 5, 1, 2, true, 5, 3, 4, 3},
		{"commit of none", 4, 5, 1, 0, true, 5, 3, 4, 3},
		{"commit below 0", 4, 5, 1, -1, true, 5, 3, 4, 3},
		{"commit far below 0", 4, 5, 0, math.MinInt, true, 4, 3, 4, 3},
		{"up to MaxLog", 4, 5, api.MaxLog - 4, 9, true, api.MaxLog, 9, 4, 4},
		{"beyond MaxLog", 4, 5, api.MaxLog - 3, 9, false, 4, 3, 4, 3},
		{"up to MaxLog, from the base", 2, 3, api.MaxLog - 2, api.MaxLog, true, api.MaxLog, api.MaxLog, 4, 4},
		{"beyond MaxLog, from the base", 2, 3, api.MaxLog - 1, 9, false, 4, 3, 4, 3},
		{"far beyond MaxLog", 3, 4, 5000, 9, false, 4, 3, 4, 3},
	}
	for _, c := range cases {
		c.do(t, false)
		c.do(t, true)
	}
}

// P1203: the head takes nothing, not even what it has.
func TestP1203AtTheHead(t *testing.T) {
	for n := 1; n <= api.MaxView; n++ {
		r := made(t, n, 0, 2)
		for _, shut := range []bool{false, true} {
			for from := -1; from <= 4; from++ {
				if r.Take(from, calls(1+from, 2), 3) || r.Take(from, nil, from) || r.Take(from, nil, 0) {
					t.Errorf("the head of %d takes from %d, shut: %v", n, from, shut)
				}
			}
			is(t, "the head", r, 2, 2, 2)
			r.Shut()
		}
	}
}

// P1203: each other member takes, whichever rank it has.
func TestP1203EachMember(t *testing.T) {
	for n := 2; n <= api.MaxView; n++ {
		for rank := 1; rank < n; rank++ {
			r := made(t, n, rank, 1)
			if !r.Take(1, calls(2, 2), 2) {
				t.Errorf("the member %d of %d takes", rank, n)
			}
			is(t, "taken", r, 3, 1, 2)
		}
	}
}

// P1203: what is there stays, whatever comes at its place; what comes is not asked whether it may be.
func TestP1203WhatIsThere(t *testing.T) {
	r := made(t, 3, 1, 1)
	r.Take(1, calls(2, 2), 0)
	if !r.Take(1, calls(50, 4), 0) {
		t.Error("it takes")
	}
	same(t, "the order", r.Log(), append(calls(1, 3), calls(52, 2)...))
	odd := []entry.Entry{{Kind: 9}, {}}
	r.Take(5, odd, 7)
	same(t, "behind it", r.Log()[5:], odd)
	if r.Commit() != 7 {
		t.Errorf("committed are %d", r.Commit())
	}
}

// P1203: at MaxLog nothing more is taken, but what is committed may be told.
func TestP1203Full(t *testing.T) {
	r := made(t, 2, 1, 1)
	r.Take(1, calls(2, api.MaxLog-1), 5)
	is(t, "full", r, api.MaxLog, 1, 5)
	if r.Take(api.MaxLog, calls(1, 1), 6) || r.Take(api.MaxLog+1, nil, 6) || r.Take(1, calls(2, api.MaxLog), 6) {
		t.Error("it takes more than MaxLog")
	}
	is(t, "full, and refused", r, api.MaxLog, 1, 5)
	if !r.Take(api.MaxLog, nil, 6) || !r.Take(1, calls(2, api.MaxLog-1), 7) {
		t.Error("it takes what it has")
	}
	is(t, "full, and told", r, api.MaxLog, 1, 7)
}

// P1203: where it is shut, what is committed is no more than what it has, whatever it is told and handed.
func TestP1203Shut(t *testing.T) {
	r := made(t, 2, 1, 0)
	r.Shut()
	if !r.Take(0, calls(1, 3), 3) {
		t.Error("it is told what is committed")
	}
	is(t, "shut without entries", r, 0, 0, 0)
	if r.Take(1, calls(2, 1), 3) {
		t.Error("it has no entry that this could stand behind")
	}
}
