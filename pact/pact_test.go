package pact_test

import (
	"math"
	"slices"
	"testing"

	"gemot/entry"
	"gemot/ident"
	"gemot/pact"
	"gemot/part"
	"gemot/store"
	"gemot/view"
)

// proc is a node in its first life.
func proc(node uint8) ident.Proc {
	return ident.Proc{Node: node, Life: 1}
}

// procs are nodes in their first life.
func procs(nodes ...uint8) []ident.Proc {
	var l []ident.Proc
	for _, n := range nodes {
		l = append(l, proc(n))
	}
	return l
}

// members are the first n members of all views here; their nodes do not rise, so that ranks are no nodes.
func members(n int) []ident.Proc {
	return procs(9, 2, 15, 0, 7, 4, 1, 12)[:n]
}

// of is the view with number 3 of group 1, of n members.
func of(n int) view.View {
	return view.View{Group: 1, N: 3, Members: members(n)}
}

// call is an entry that lists stand in, of a number by which it is told from others.
func call(n int) entry.Entry {
	return entry.Entry{
		Kind: entry.Check, ID: ident.ID{Client: proc(14), Seq: uint32(n)},
		Parts:  []part.Part{{Group: 1, Kind: part.Write, Key: "a", Value: "x"}, {Group: 2, Kind: part.Read, Key: "b"}},
		Writes: []store.Write{{Key: "a", Value: "x", Has: true}},
	}
}

// tail are n entries, from that of a number on.
func tail(from, n int) []entry.Entry {
	var l []entry.Entry
	for i := range n {
		l = append(l, call(from+i))
	}
	return l
}

// val is a value of a number by which it is told from others.
func val(n int) pact.Val {
	return pact.Val{Members: procs(uint8(n%16), 3), Tail: tail(100*n, 2)}
}

// same fails, unless two values are the same, element by element.
func same(t *testing.T, what string, got, want pact.Val) {
	t.Helper()
	if !slices.Equal(got.Members, want.Members) || !entry.SameAll(got.Tail, want.Tail) {
		t.Errorf("%s: %v, not %v", what, got, want)
	}
}

// spoil changes all that a value's lists have, and the room behind them.
func spoil(v pact.Val) {
	for _, e := range v.Tail {
		clear(e.Parts[:cap(e.Parts)])
		clear(e.Writes[:cap(e.Writes)])
	}
	clear(v.Tail[:cap(v.Tail)])
	clear(v.Members[:cap(v.Members)])
}

// roomy is the same value in lists that have room behind them.
func roomy(v pact.Val) pact.Val {
	r := pact.Val{Members: append(make([]ident.Proc, 0, 20), v.Members...), Tail: make([]entry.Entry, 0, 20)}
	for _, e := range v.Tail {
		e.Parts = append(make([]part.Part, 0, 20), e.Parts...)
		e.Writes = append(make([]store.Write, 0, 20), e.Writes...)
		r.Tail = append(r.Tail, e)
	}
	return r
}

// P1104: round times 256, and node.
func TestP1104Ballot(t *testing.T) {
	cases := []struct {
		round uint32
		node  uint8
		want  uint64
	}{
		{0, 0, 0}, {0, 1, 1}, {0, 255, 255}, {1, 0, 256}, {1, 44, 300}, {2, 7, 519}, {255, 255, 65535},
		{1 << 24, 3, 1<<32 + 3}, {1 << 31, 15, 1<<39 + 15}, {math.MaxUint32, 0, 1<<40 - 256}, {math.MaxUint32, 255, 1<<40 - 1},
	}
	for _, c := range cases {
		if got := pact.Ballot(c.round, c.node); got != c.want {
			t.Errorf("Ballot(%d, %d) is %d, not %d", c.round, c.node, got, c.want)
		}
		if got := pact.Round(c.want); got != c.round {
			t.Errorf("Round(%d) is %d, not %d", c.want, got, c.round)
		}
	}
}

// P1104: a greater round's ballots are greater, whoever's they are, and no two nodes have one.
func TestP1104Rising(t *testing.T) {
	rounds := []uint32{0, 1, 2, 255, 256, 257, 1 << 16, 1 << 31, math.MaxUint32 - 1, math.MaxUint32}
	var last uint64
	for i, r := range rounds {
		for n := range 256 {
			b := pact.Ballot(r, uint8(n))
			if i+n > 0 && b <= last {
				t.Fatalf("Ballot(%d, %d) is %d, behind %d", r, n, b, last)
			}
			if pact.Round(b) != r {
				t.Fatalf("Round(%d) is %d, not %d", b, pact.Round(b), r)
			}
			last = b
		}
	}
	if got := pact.Round(math.MaxUint64); got != math.MaxUint32 {
		t.Errorf("Round of the greatest number is %d", got)
	}
}

// Values are the same where members and tails are, one by one.
func TestP1103Same(t *testing.T) {
	alike := [][2]pact.Val{
		{{}, {}},
		{{}, {Members: []ident.Proc{}, Tail: []entry.Entry{}}},
		{val(1), val(1)},
		{val(1), roomy(val(1))},
		{{Members: procs(1)}, {Members: procs(1), Tail: []entry.Entry{}}},
		{{Tail: tail(1, 1)}, {Members: []ident.Proc{}, Tail: tail(1, 1)}},
		{{Tail: []entry.Entry{{}}}, {Tail: []entry.Entry{{Parts: []part.Part{}, Writes: []store.Write{}}}}},
	}
	for _, c := range alike {
		if !pact.Same(c[0], c[1]) || !pact.Same(c[1], c[0]) {
			t.Errorf("%v and %v are the same", c[0], c[1])
		}
	}
	other := call(1)
	other.Parts[1].Key = "c"
	written := call(1)
	written.Writes[0].Value = "y"
	l := []pact.Val{
		{},
		{Members: procs(1)}, {Members: procs(2)}, {Members: procs(1, 2)}, {Members: procs(2, 1)}, {Members: procs(1, 1)}, {Members: []ident.Proc{{Node: 1, Life: 2}}}, {Members: []ident.Proc{{}}},
		{Tail: tail(1, 1)}, {Tail: tail(2, 1)}, {Tail: tail(1, 2)}, {Tail: []entry.Entry{call(2), call(1)}}, {Tail: []entry.Entry{{}}},
		{Tail: []entry.Entry{other}}, {Tail: []entry.Entry{written}},
		{Members: procs(1), Tail: tail(1, 1)}, {Members: procs(2), Tail: tail(1, 1)}, {Members: procs(1), Tail: tail(2, 1)},
	}
	for i, a := range l {
		for j, b := range l {
			if pact.Same(a, b) != (i == j) {
				t.Errorf("Same(%v, %v) is %v", a, b, i != j)
			}
		}
	}
}

// P1103: how phases are counted.
func TestP1103Phases(t *testing.T) {
	if pact.Asking != 0 || pact.Proposing != 1 || pact.Decided != 2 {
		t.Error(pact.Asking, pact.Proposing, pact.Decided)
	}
}
