package ident_test

import (
	"math"
	"math/rand"
	"slices"
	"testing"

	"gemot/api"
	"gemot/ident"
)

// id is an identifier of client's call seq, with steps.
func id(client ident.Proc, seq uint32, steps ...ident.Step) ident.ID {
	d := ident.ID{Client: client, Seq: seq, Depth: uint8(len(steps))}
	copy(d.Path[:], steps)
	return d
}

var one = ident.Proc{Node: 1, Life: 1}

// rightOnes are right identifiers, each once.
func rightOnes() []ident.ID {
	var l []ident.ID
	steps := []ident.Step{{}, {Index: 1}, {Group: 1}, {Group: api.MaxGroups - 1, Index: 255}}
	for _, client := range []ident.Proc{{Node: 0, Life: 1}, {Node: 0, Life: math.MaxUint16}, {Node: api.MaxNodes - 1, Life: 1}} {
		for _, seq := range []uint32{1, 2, api.MaxSeq} {
			l = append(l, id(client, seq))
			for _, a := range steps {
				l = append(l, id(client, seq, a))
				for _, b := range steps {
					l = append(l, id(client, seq, a, b))
					for _, c := range steps {
						l = append(l, id(client, seq, a, b, c))
					}
				}
			}
		}
	}
	return l
}

// wrongOnes are identifiers that may not be, each once.
func wrongOnes() []ident.ID {
	l := []ident.ID{
		{},
		id(ident.Proc{Node: api.MaxNodes, Life: 1}, 1),
		id(ident.Proc{Node: 255, Life: 1}, 1),
		id(ident.Proc{Node: 1}, 1),
		id(one, 0),
		id(one, api.MaxSeq+1),
		id(one, math.MaxUint32),
		id(one, 1, ident.Step{Group: api.MaxGroups}),
		id(one, 1, ident.Step{Group: 255, Index: 1}),
		id(one, 1, ident.Step{}, ident.Step{Group: api.MaxGroups}),
		id(one, 1, ident.Step{}, ident.Step{}, ident.Step{Group: api.MaxGroups}),
	}
	for _, depth := range []uint8{api.MaxDepth + 1, 100, 255} {
		l = append(l,
			ident.ID{Client: one, Seq: 1, Depth: depth},
			ident.ID{Client: one, Seq: 1, Depth: depth, Path: [3]ident.Step{{Group: 2, Index: 1}}})
	}
	for depth := range uint8(api.MaxDepth) {
		for at := depth; at < api.MaxDepth; at++ { // what is behind the steps is not zero
			d := ident.ID{Client: one, Seq: 1, Depth: depth}
			d.Path[at].Group = 1
			l = append(l, d)
			d.Path[at] = ident.Step{Index: 255}
			l = append(l, d)
		}
	}
	return l
}

// P201: values may be keys of maps; what is handed in is not changed.
func TestP201Values(t *testing.T) {
	d := id(one, 5, ident.Step{Group: 2})
	m := map[ident.ID]int{d: 7}
	c, _ := ident.Child(id(one, 5), 2, 0)
	if m[c] != 7 {
		t.Error("the same identifier is another key")
	}
	p, _ := ident.Parent(d)
	if d != id(one, 5, ident.Step{Group: 2}) || p == d || ident.Root(d) == d {
		t.Error("changed")
	}
}

// P202: Right of processes.
func TestP202RightProcs(t *testing.T) {
	for node := range 256 {
		for _, life := range []uint16{0, 1, 2, math.MaxUint16} {
			p := ident.Proc{Node: uint8(node), Life: life}
			if p.Right() != (node < 16 && life != 0) {
				t.Errorf("%v: %v", p, p.Right())
			}
		}
	}
}

// P202: Right of identifiers.
func TestP202RightIDs(t *testing.T) {
	for _, d := range rightOnes() {
		if !d.Right() {
			t.Errorf("%v is not right", d)
		}
	}
	for _, d := range wrongOnes() {
		if d.Right() {
			t.Errorf("%v is right", d)
		}
	}
}

// P202: Child, and what is wrong with it.
func TestP202Child(t *testing.T) {
	root := id(one, 5)
	first, e := ident.Child(root, 2, 1)
	if e != api.OK || first != (ident.ID{Client: one, Seq: 5, Depth: 1, Path: [3]ident.Step{{Group: 2, Index: 1}}}) {
		t.Error(first, e)
	}
	second, e := ident.Child(first, 0, 255)
	if e != api.OK || second != id(one, 5, ident.Step{Group: 2, Index: 1}, ident.Step{Group: 0, Index: 255}) {
		t.Error(second, e)
	}
	third, e := ident.Child(second, api.MaxGroups-1, 0)
	if e != api.OK || third != id(one, 5, ident.Step{Group: 2, Index: 1}, ident.Step{Group: 0, Index: 255}, ident.Step{Group: api.MaxGroups - 1}) {
		t.Error(third, e)
	}
	cases := []struct {
		d     ident.ID
		group uint8
		want  api.Errno
	}{
		{third, 0, api.ErrDepth},
		{third, api.MaxGroups, api.ErrArg}, // both: ErrArg is named first
		{root, api.MaxGroups, api.ErrArg},
		{root, 255, api.ErrArg},
	}
	for _, c := range cases {
		if d, e := ident.Child(c.d, c.group, 0); e != c.want || d != (ident.ID{}) {
			t.Errorf("Child(%v, %d): %v, %d", c.d, c.group, d, e)
		}
	}
	for _, w := range wrongOnes() {
		if d, e := ident.Child(w, 0, 0); e != api.ErrArg || d != (ident.ID{}) {
			t.Errorf("Child(%v): %v, %d", w, d, e)
		}
	}
}

// P202: Parent, Root, and what is wrong with them.
func TestP202ParentAndRoot(t *testing.T) {
	d := id(one, 5, ident.Step{Group: 2, Index: 1}, ident.Step{Group: 1}, ident.Step{Group: 3, Index: 9})
	for _, want := range []ident.ID{
		id(one, 5, ident.Step{Group: 2, Index: 1}, ident.Step{Group: 1}),
		id(one, 5, ident.Step{Group: 2, Index: 1}),
		id(one, 5),
	} {
		if ident.Root(d) != id(one, 5) {
			t.Errorf("Root of %v: %v", d, ident.Root(d))
		}
		p, e := ident.Parent(d)
		if e != api.OK || p != want {
			t.Errorf("Parent of %v: %v, %d", d, p, e)
		}
		d = p
	}
	if p, e := ident.Parent(d); e != api.ErrNone || p != (ident.ID{}) || ident.Root(d) != d {
		t.Errorf("of a root: %v, %d, %v", p, e, ident.Root(d))
	}
	for _, w := range wrongOnes() {
		if p, e := ident.Parent(w); e != api.ErrArg || p != (ident.ID{}) {
			t.Errorf("Parent(%v): %v, %d", w, p, e)
		}
		if ident.Root(w) != id(w.Client, w.Seq) {
			t.Errorf("Root of %v: %v", w, ident.Root(w))
		}
	}
}

// P202: the order, as the chapter tells it, from the least one on.
func TestP202Compare(t *testing.T) {
	rising := []ident.ID{
		{},
		id(ident.Proc{}, 1),
		id(ident.Proc{Node: 0, Life: 1}, 9, ident.Step{Group: 3}),
		id(ident.Proc{Node: 0, Life: 256}, 2),
		id(ident.Proc{Node: 1, Life: 1}, 1),
		id(ident.Proc{Node: 1, Life: 1}, 1, ident.Step{}),
		id(ident.Proc{Node: 1, Life: 1}, 1, ident.Step{}, ident.Step{}),
		id(ident.Proc{Node: 1, Life: 1}, 1, ident.Step{}, ident.Step{}, ident.Step{}),
		id(ident.Proc{Node: 1, Life: 1}, 1, ident.Step{}, ident.Step{}, ident.Step{Index: 1}),
		id(ident.Proc{Node: 1, Life: 1}, 1, ident.Step{}, ident.Step{Group: 3, Index: 255}),
		id(ident.Proc{Node: 1, Life: 1}, 1, ident.Step{Index: 1}),
		id(ident.Proc{Node: 1, Life: 1}, 1, ident.Step{Index: 255}),
		id(ident.Proc{Node: 1, Life: 1}, 1, ident.Step{Group: 1}),
		id(ident.Proc{Node: 1, Life: 1}, 1, ident.Step{Group: 1}, ident.Step{}),
		id(ident.Proc{Node: 1, Life: 1}, 1, ident.Step{Group: 1}, ident.Step{Group: 2, Index: 5}),
		id(ident.Proc{Node: 1, Life: 1}, 2),
		id(ident.Proc{Node: 1, Life: 1}, 300),
		id(ident.Proc{Node: 1, Life: 1}, math.MaxUint32),
		id(ident.Proc{Node: 1, Life: 2}, 1),
		id(ident.Proc{Node: 15, Life: 1}, 1),
		id(ident.Proc{Node: 255, Life: 0}, 0),
	}
	for i, a := range rising {
		for j, b := range rising {
			if got, want := ident.Compare(a, b), sign(i-j); got != want {
				t.Errorf("Compare(%v, %v): %d", a, b, got)
			}
		}
	}
	procs := []ident.Proc{{}, {Life: 1}, {Life: 255}, {Life: 256}, {Life: math.MaxUint16}, {Node: 1}, {Node: 1, Life: 1}, {Node: 15, Life: 3}, {Node: 255}, {Node: 255, Life: math.MaxUint16}}
	for i, a := range procs {
		for j, b := range procs {
			if got, want := ident.CompareProcs(a, b), sign(i-j); got != want {
				t.Errorf("CompareProcs(%v, %v): %d", a, b, got)
			}
		}
	}
}

// P202: of identifiers that may not be, all of Path is held, too; a beginning is ahead of them.
func TestP202CompareWrongOnes(t *testing.T) {
	a, b, c := ident.Step{Group: 1}, ident.Step{Group: 1, Index: 2}, ident.Step{Group: 2}
	rising := []ident.ID{
		id(one, 1, a),
		{Client: one, Seq: 1, Depth: 1, Path: [3]ident.Step{a, {}, a}},
		{Client: one, Seq: 1, Depth: 1, Path: [3]ident.Step{a, b}},
		{Client: one, Seq: 1, Depth: 1, Path: [3]ident.Step{a, c, a}},
		id(one, 1, a, b),
		id(one, 1, a, b, c),
		{Client: one, Seq: 1, Depth: 4, Path: [3]ident.Step{a, b, c}},
		{Client: one, Seq: 1, Depth: 255, Path: [3]ident.Step{a, b, c}},
		id(one, 1, b),
	}
	for i, x := range rising {
		for j, y := range rising {
			if got, want := ident.Compare(x, y), sign(i-j); got != want {
				t.Errorf("Compare(%v, %v): %d", x, y, got)
			}
		}
	}
}

func sign(n int) int {
	return min(1, max(-1, n))
}

// P205: there and back.
func TestP205ParentOfChild(t *testing.T) {
	for _, d := range rightOnes() {
		for _, s := range []ident.Step{{}, {Index: 255}, {Group: 3, Index: 1}} {
			c, e := ident.Child(d, s.Group, s.Index)
			if d.Depth == api.MaxDepth {
				if e != api.ErrDepth {
					t.Errorf("Child of %v: %d", d, e)
				}
				continue
			}
			p, back := ident.Parent(c)
			if e != api.OK || back != api.OK || p != d || !c.Right() || ident.Root(c) != ident.Root(d) {
				t.Errorf("%v, its child %v (%d), that one's parent %v (%d)", d, c, e, p, back)
			}
		}
	}
}

// anyID is an identifier of few numbers, so that many are nearly the same.
func anyID(rnd *rand.Rand) ident.ID {
	few := func() uint8 { return []uint8{0, 0, 0, 1, 2, 3, 4, 255}[rnd.Intn(8)] }
	d := ident.ID{Client: ident.Proc{Node: few() % 2, Life: uint16(few() % 2)}, Seq: uint32(few() % 2), Depth: few()}
	for i := range d.Path {
		d.Path[i] = ident.Step{Group: few(), Index: few()}
	}
	return d
}

// P206: Compare is an order, of identifiers that may not be, too.
func TestP206Order(t *testing.T) {
	rnd := rand.New(rand.NewSource(206))
	l := append(rightOnes(), wrongOnes()...)
	for range 300 {
		l = append(l, anyID(rnd))
	}
	for _, a := range l {
		for _, b := range l {
			if c := ident.Compare(a, b); c < -1 || c > 1 || c != -ident.Compare(b, a) || (c == 0) != (a == b) {
				t.Fatalf("Compare(%v, %v): %d, and turned round %d", a, b, c, ident.Compare(b, a))
			}
		}
	}
	slices.SortFunc(l, ident.Compare)
	for i, a := range l { // every two stand as their places say: then it hangs together for any three
		for _, b := range l[i:] {
			if ident.Compare(a, b) > 0 {
				t.Fatalf("%v stands ahead of %v", a, b)
			}
		}
	}
}

// under tells whether d came of p, by going from parent to parent.
func under(d, p ident.ID) bool {
	for {
		up, e := ident.Parent(d)
		if e != api.OK {
			return false
		}
		if up == p {
			return true
		}
		d = up
	}
}

// P206: a child is behind its parent, and ahead of all that are behind the parent but not under it.
func TestP206Children(t *testing.T) {
	l := rightOnes()
	for _, c := range l {
		p, e := ident.Parent(c)
		if e != api.OK {
			continue
		}
		if ident.Compare(p, c) != -1 {
			t.Errorf("%v is not behind %v", c, p)
		}
		for _, d := range l {
			if ident.Compare(p, d) < 0 && !under(d, p) && ident.Compare(c, d) != -1 {
				t.Errorf("%v, a child of %v, is not ahead of %v", c, p, d)
			}
		}
	}
}
