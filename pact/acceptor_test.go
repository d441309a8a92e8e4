package pact_test

import (
	"math"
	"math/rand"
	"testing"

	"gemot/entry"
	"gemot/ident"
	"gemot/pact"
)

// promised fails, unless an acceptor has promised a ballot, and holds a value with another one; none, if that one is 0.
func promised(t *testing.T, a *pact.Acceptor, want, ballot uint64, v pact.Val) {
	t.Helper()
	if got := a.Promised(); got != want {
		t.Errorf("%d is promised, not %d", got, want)
	}
	b, held, has := a.Held()
	if b != ballot || has != (ballot != 0) {
		t.Errorf("one is held: %v, with %d, not %d", has, b, ballot)
	}
	same(t, "what is held", held, v)
}

// P1101: a nil Acceptor, and one that NewAcceptor did not make.
func TestP1101NoAcceptor(t *testing.T) {
	var none *pact.Acceptor
	for name, a := range map[string]*pact.Acceptor{"nil": none, "unmade": {}} {
		for range 2 { // what was refused must not have made it one
			for _, b := range []uint64{0, 1, 256, math.MaxUint64} {
				if a.Prepare(b) || a.Accept(b, val(1)) || a.Accept(b, pact.Val{}) {
					t.Errorf("%s: it promises %d", name, b)
				}
				promised(t, a, 0, 0, pact.Val{})
			}
		}
	}
}

// P1101: a value is taken in and told apart, and is not changed.
func TestP1101HeldApart(t *testing.T) {
	a := pact.NewAcceptor()
	v := roomy(val(1))
	a.Accept(5, v)
	same(t, "what was handed in", v, val(1))
	spoil(v)
	promised(t, a, 5, 5, val(1))
	_, first, _ := a.Held()
	_, second, _ := a.Held()
	first.Tail[0].Parts = append(first.Tail[0].Parts, first.Tail[0].Parts...)
	spoil(first)
	same(t, "what was told ahead of it", second, val(1))
	promised(t, a, 5, 5, val(1))
	a.Accept(6, val(2))
	same(t, "what was told ahead of another one", second, val(1))
}

// P1101: two entries that share their lists are told apart from one another, too.
func TestP1101EntriesApart(t *testing.T) {
	a := pact.NewAcceptor()
	e := call(1)
	a.Accept(1, pact.Val{Tail: []entry.Entry{e, e}})
	_, v, _ := a.Held()
	clear(v.Tail[0].Parts)
	clear(v.Tail[0].Writes)
	same(t, "the other one", pact.Val{Tail: v.Tail[1:]}, pact.Val{Tail: tail(1, 1)})
	same(t, "what was handed in", pact.Val{Tail: []entry.Entry{e}}, pact.Val{Tail: tail(1, 1)})
}

// P1101: two acceptors have nothing to do with each other.
func TestP1101TwoAcceptors(t *testing.T) {
	a, b := pact.NewAcceptor(), pact.NewAcceptor()
	a.Accept(9, val(1))
	promised(t, b, 0, 0, pact.Val{})
	if !b.Prepare(1) {
		t.Error("the other one has not promised")
	}
	promised(t, a, 9, 9, val(1))
}

// step is a call of an acceptor, and what stands behind it.
type step struct {
	accept         bool
	ballot         uint64
	val            int
	ok             bool
	promised, held uint64
	holds          int
}

// walk does steps one behind the other.
func walk(t *testing.T, l []step) {
	t.Helper()
	a := pact.NewAcceptor()
	promised(t, a, 0, 0, pact.Val{})
	for i, s := range l {
		var ok bool
		if s.accept {
			ok = a.Accept(s.ballot, val(s.val))
		} else {
			ok = a.Prepare(s.ballot)
		}
		if ok != s.ok {
			t.Errorf("step %d: %v", i, ok)
		}
		want := pact.Val{}
		if s.held != 0 {
			want = val(s.holds)
		}
		promised(t, a, s.promised, s.held, want)
	}
}

// P1102: a ballot is promised, unless it is 0 or below what was.
func TestP1102Prepare(t *testing.T) {
	walk(t, []step{
		{ballot: 0},
		{ballot: 300, ok: true, promised: 300},
		{ballot: 299, promised: 300},
		{ballot: 0, promised: 300},
		{ballot: 300, ok: true, promised: 300},
		{ballot: 301, ok: true, promised: 301},
		{ballot: 300, promised: 301},
		{ballot: math.MaxUint64, ok: true, promised: math.MaxUint64},
		{ballot: math.MaxUint64 - 1, promised: math.MaxUint64},
		{ballot: 1, promised: math.MaxUint64},
		{ballot: math.MaxUint64, ok: true, promised: math.MaxUint64},
	})
	walk(t, []step{{ballot: 1, ok: true, promised: 1}, {ballot: 0, promised: 1}, {ballot: 1, ok: true, promised: 1}})
}

// P1102: what is accepted is promised and held; what is refused changes nothing.
func TestP1102Accept(t *testing.T) {
	walk(t, []step{
		{accept: true, ballot: 0, val: 1},
		{accept: true, ballot: 5, val: 2, ok: true, promised: 5, held: 5, holds: 2},
		{accept: true, ballot: 4, val: 3, promised: 5, held: 5, holds: 2},
		{accept: true, ballot: 0, val: 3, promised: 5, held: 5, holds: 2},
		{ballot: 4, promised: 5, held: 5, holds: 2},
		{ballot: 5, ok: true, promised: 5, held: 5, holds: 2},
		{ballot: 8, ok: true, promised: 8, held: 5, holds: 2},
		{accept: true, ballot: 7, val: 4, promised: 8, held: 5, holds: 2},
		{accept: true, ballot: 8, val: 5, ok: true, promised: 8, held: 8, holds: 5},
		{accept: true, ballot: 8, val: 5, ok: true, promised: 8, held: 8, holds: 5},
		{accept: true, ballot: 8, val: 6, ok: true, promised: 8, held: 8, holds: 6}, // the last one
		{accept: true, ballot: math.MaxUint64, val: 7, ok: true, promised: math.MaxUint64, held: math.MaxUint64, holds: 7},
		{accept: true, ballot: math.MaxUint64 - 1, val: 8, promised: math.MaxUint64, held: math.MaxUint64, holds: 7},
	})
	walk(t, []step{
		{ballot: 9, ok: true, promised: 9},
		{accept: true, ballot: 8, val: 1, promised: 9},
		{accept: true, ballot: 9, val: 1, ok: true, promised: 9, held: 9, holds: 1},
	})
}

// P1102: a value without members and entries is held like any other one.
func TestP1102Nothing(t *testing.T) {
	a := pact.NewAcceptor()
	if !a.Accept(3, pact.Val{}) {
		t.Error("it is not accepted")
	}
	promised(t, a, 3, 3, pact.Val{})
	a.Accept(4, val(1))
	a.Accept(5, pact.Val{Members: []ident.Proc{}, Tail: []entry.Entry{}})
	promised(t, a, 5, 5, pact.Val{})
}

// P1102: any calls, one behind the other, are answered as the words have it.
func TestP1102AnyCalls(t *testing.T) {
	rnd := rand.New(rand.NewSource(1102))
	for range 200 {
		a := pact.NewAcceptor()
		var most, with uint64
		var want pact.Val
		for range 60 {
			b := uint64(rnd.Intn(12))
			may := b != 0 && b >= most
			accept, v := rnd.Intn(2) == 0, val(rnd.Intn(20))
			if accept && a.Accept(b, v) != may || !accept && a.Prepare(b) != may {
				t.Fatalf("%d, behind %d: not %v", b, most, may)
			}
			if may {
				most = b
			}
			if may && accept {
				with, want = b, v
			}
			promised(t, a, most, with, want)
		}
	}
}
