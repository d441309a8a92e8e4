package cont_test

import (
	"math/rand"
	"slices"
	"strings"
	"testing"

	"gemot/api"
	"gemot/cont"
	"gemot/ident"
	"gemot/part"
	"gemot/store"
)

const group = 2 // whose table it is, where a test names none

var (
	one   = ident.Proc{Node: 1, Life: 1}
	again = ident.Proc{Node: 1, Life: 2} // the same node's next life, which is another client
	two   = ident.Proc{Node: 2, Life: 1}
)

// id is a client's call, or one that was made for it, behind steps.
func id(client ident.Proc, seq uint32, steps ...ident.Step) ident.ID {
	d := ident.ID{Client: client, Seq: seq, Depth: uint8(len(steps))}
	copy(d.Path[:], steps)
	return d
}

// below is the child that is waited for in a group.
func below(t *testing.T, d ident.ID, group uint8) ident.ID {
	t.Helper()
	child, e := ident.Child(d, group, 0)
	if e != api.OK {
		t.Fatalf("%v has no child: %d", d, e)
	}
	return child
}

// rest are so many parts, all of them right.
func rest(n int) []part.Part {
	l := make([]part.Part, 0, n)
	for i := range n {
		l = append(l, part.Part{Group: uint8(i % api.MaxGroups), Kind: part.Add, Key: "b", N: int64(i)})
	}
	return l
}

// waits is a call that waits: the chapter's example.
func waits(d ident.ID) cont.Cont {
	return cont.Cont{
		ID:    d,
		First: part.Part{Group: group, Kind: part.Take, Key: "a", N: 5},
		Rest:  []part.Part{{Group: 1, Kind: part.Add, Key: "b", N: 5}},
		Res:   part.Res{Value: "3"},
		Old:   store.Write{Key: "a", Value: "8", Has: true},
		Floor: 2,
	}
}

// of is a table in which these wait.
func of(t *testing.T, group uint8, l ...cont.Cont) *cont.Table {
	t.Helper()
	x := cont.New(group)
	for _, c := range l {
		if child, e := x.Add(c); e != api.OK || child != below(t, c.ID, group) {
			t.Fatalf("Add(%v): %v, %d", c, child, e)
		}
	}
	return x
}

// same holds all fields of two against each other.
func same(a, b cont.Cont) bool {
	return a.ID == b.ID && a.First == b.First && slices.Equal(a.Rest, b.Rest) && a.Res == b.Res && a.Old == b.Old && a.Floor == b.Floor
}

// sameAll holds two lists against each other.
func sameAll(a, b []cont.Cont) bool {
	return slices.EqualFunc(a, b, same)
}

// isZero tells whether nothing is told.
func isZero(c cont.Cont) bool {
	return same(c, cont.Cont{}) && len(c.Rest) == 0
}

// spoil overwrites a list, and the room behind it.
func spoil(l []part.Part) {
	for i := range l[:cap(l)] {
		l[:cap(l)][i] = part.Part{Key: "spoilt"}
	}
}

// P1501: nil tables, and those that New did not make.
func TestP1501Unmade(t *testing.T) {
	d := id(one, 5)
	for _, x := range []*cont.Table{nil, {}, new(cont.Table)} {
		for _, c := range []cont.Cont{{}, waits(d), waits(id(one, 5, ident.Step{}, ident.Step{}, ident.Step{}))} {
			if child, e := x.Add(c); e != api.ErrArg || child != (ident.ID{}) {
				t.Error(child, e)
			}
		}
		if x.Has(ident.ID{}) || x.Has(below(t, d, 0)) || x.Len() != 0 || len(x.All()) != 0 || x.Clone() != nil {
			t.Error("Has, Len, All or Clone")
		}
		if c, ok := x.Take(below(t, d, 0)); ok || !isZero(c) {
			t.Error(c, ok)
		}
		if !x.Same(nil) || !x.Same(&cont.Table{}) || x.Same(cont.New(0)) || cont.New(0).Same(x) || x.Same(of(t, 0, waits(d))) {
			t.Error("Same")
		}
	}
}

// P1502: New, of every group.
func TestP1502New(t *testing.T) {
	for g := range 256 {
		x := cont.New(uint8(g))
		if (x != nil) != (g < api.MaxGroups) {
			t.Errorf("group %d: %v", g, x)
		}
		if x.Len() != 0 || len(x.All()) != 0 || x.Has(ident.ID{}) {
			t.Errorf("group %d: something waits", g)
		}
	}
}

// P1502: the child is the call's first one by the group of the table, whichever groups the parts are for.
func TestP1502AddTellsTheChild(t *testing.T) {
	for g := range uint8(api.MaxGroups) {
		x := cont.New(g)
		for _, d := range []ident.ID{id(one, 5), id(again, api.MaxSeq), id(one, 5, ident.Step{Group: 3, Index: 255}), id(two, 1, ident.Step{}, ident.Step{Group: 1, Index: 7})} {
			want := d
			want.Path[want.Depth] = ident.Step{Group: g}
			want.Depth++
			child, e := x.Add(waits(d))
			if child != want || e != api.OK || !x.Has(want) {
				t.Errorf("group %d: Add of %v: %v, %d", g, d, child, e)
			}
			if x.Has(d) || x.Has(below(t, d, (g+1)%api.MaxGroups)) {
				t.Errorf("group %d: others than the child of %v are waited for", g, d)
			}
		}
		if x.Len() != 4 {
			t.Error(x.Len())
		}
	}
}

// P1502: what is refused for its ID, its First or its Rest, and changes nothing.
func TestP1502AddOfWrongOnes(t *testing.T) {
	with := func(change func(c *cont.Cont)) cont.Cont {
		c := waits(id(one, 5))
		change(&c)
		return c
	}
	cases := map[string]cont.Cont{
		"nothing":            {},
		"no client":          with(func(c *cont.Cont) { c.ID.Client = ident.Proc{} }),
		"no call":            with(func(c *cont.Cont) { c.ID.Seq = 0 }),
		"a call too far":     with(func(c *cont.Cont) { c.ID.Seq = api.MaxSeq + 1 }),
		"too deep":           with(func(c *cont.Cont) { c.ID.Depth = api.MaxDepth + 1 }),
		"far too deep":       with(func(c *cont.Cont) { c.ID.Depth = 255 }),
		"a step behind":      with(func(c *cont.Cont) { c.ID.Path[0].Index = 1 }),
		"a step of no group": with(func(c *cont.Cont) { c.ID = id(one, 5, ident.Step{Group: api.MaxGroups}) }),
		"no first part":      with(func(c *cont.Cont) { c.First = part.Part{} }),
		"of no group":        with(func(c *cont.Cont) { c.First.Group = api.MaxGroups }),
		"of no kind":         with(func(c *cont.Cont) { c.First.Kind = 5 }),
		"a long key":         with(func(c *cont.Cont) { c.First.Key = strings.Repeat("k", api.MaxKey+1) }),
		"less than nothing":  with(func(c *cont.Cont) { c.First.N = -1 }),
		"no rest":            with(func(c *cont.Cont) { c.Rest = nil }),
		"an empty rest":      with(func(c *cont.Cont) { c.Rest = []part.Part{} }),
		"a wrong rest":       with(func(c *cont.Cont) { c.Rest[0].Key = "" }),
		"a wrong last one":   with(func(c *cont.Cont) { c.Rest = append(rest(2), part.Part{Kind: part.Read, Key: "a", N: 1}) }),
		"a long rest":        with(func(c *cont.Cont) { c.Rest = rest(api.MaxParts + 1) }),
		"a very long rest":   with(func(c *cont.Cont) { c.Rest = rest(300) }),
	}
	x := of(t, group, waits(id(one, 4)))
	before := x.Clone()
	for name, c := range cases {
		if child, e := x.Add(c); e != api.ErrArg || child != (ident.ID{}) {
			t.Errorf("%s: %v, %d", name, child, e)
		}
		if !x.Same(before) {
			t.Errorf("%s: something has changed", name)
		}
	}
}

// P1502: the parts, the first one with them, and Depth are at most MaxParts together; that is named ahead of MaxDepth.
func TestP1502AddOfTooManyParts(t *testing.T) {
	steps := []ident.Step{{Group: 1}, {Index: 3}, {Group: 3}}
	for depth := 0; depth <= api.MaxDepth; depth++ {
		for n := 1; n <= api.MaxParts; n++ {
			c := waits(id(one, 5, steps[:depth]...))
			c.Rest = rest(n)
			want := api.OK
			if depth+1+n > api.MaxParts {
				want = api.ErrArg
			}
			x := cont.New(group)
			child, e := x.Add(c)
			if e != want || (child == ident.ID{}) != (want != api.OK) || (x.Len() == 0) != (want != api.OK) {
				t.Errorf("depth %d, %d parts behind the first: %v, %d", depth, n, child, e)
			}
		}
	}
}

// P1502: what is not named is taken in, whatever it is.
func TestP1502AddAsksNothingElse(t *testing.T) {
	c := waits(id(one, 5))
	c.First = part.Part{Group: group + 1, Kind: part.Read, Key: "q"}
	c.Res = part.Res{Code: 200, Value: strings.Repeat("r", 2000)}
	c.Old = store.Write{Key: strings.Repeat("o", 500), Value: "x"}
	c.Floor = 1<<32 - 1
	x := of(t, group, c)
	if l := x.All(); len(l) != 1 || !same(l[0], c) {
		t.Error(l)
	}
}

// P1502: a child is waited for once at a time.
func TestP1502AddThere(t *testing.T) {
	d := id(one, 5, ident.Step{Group: 1})
	x := of(t, group, waits(d))
	other := waits(d)
	other.First.Key, other.Floor = "c", 4
	if child, e := x.Add(other); e != api.ErrThere || child != (ident.ID{}) {
		t.Error(child, e)
	}
	if l := x.All(); len(l) != 1 || !same(l[0], waits(d)) {
		t.Error(l)
	}
	if c, ok := x.Take(below(t, d, group)); !ok || !same(c, waits(d)) {
		t.Error(c, ok)
	}
	if child, e := x.Add(other); e != api.OK || child != below(t, d, group) {
		t.Error(child, e)
	}
}

// P1502: 4 times MaxWindow wait, and no more.
func TestP1502AddFull(t *testing.T) {
	const most = 4 * api.MaxWindow
	x := cont.New(group)
	for seq := range uint32(most) {
		if _, e := x.Add(waits(id(one, seq+1))); e != api.OK || x.Len() != int(seq)+1 {
			t.Fatal(seq, e)
		}
	}
	before := x.Clone()
	for _, c := range []struct {
		c    cont.Cont
		want api.Errno
	}{
		{waits(id(one, most+1)), api.ErrFull},
		{waits(id(two, 1, ident.Step{})), api.ErrFull},
		{waits(id(one, 1)), api.ErrThere},
		{waits(id(one, most)), api.ErrThere},
		{waits(id(one, 0)), api.ErrArg},
		{cont.Cont{}, api.ErrArg},
	} {
		if child, e := x.Add(c.c); e != c.want || child != (ident.ID{}) {
			t.Errorf("%v: %v, %d", c.c.ID, child, e)
		}
	}
	if !x.Same(before) || x.Len() != most {
		t.Error("something has changed")
	}
	x.Take(below(t, id(one, 7), group))
	if _, e := x.Add(waits(id(two, 1))); e != api.OK {
		t.Error(e)
	}
	if _, e := x.Add(waits(id(two, 2))); e != api.ErrFull {
		t.Error(e)
	}
}

// P1502, P1504: what is taken waits no more.
func TestP1502Take(t *testing.T) {
	a, b := waits(id(one, 5)), waits(id(one, 6))
	b.Res, b.Rest = part.Res{Value: "9"}, rest(3)
	x := of(t, group, a, b)
	for _, none := range []ident.ID{{}, a.ID, below(t, a.ID, group+1), below(t, id(one, 7), group), id(one, 5, ident.Step{Group: group, Index: 1}), below(t, id(again, 5), group)} {
		if c, ok := x.Take(none); ok || !isZero(c) || x.Has(none) || x.Len() != 2 {
			t.Errorf("Take(%v): %v, %v", none, c, ok)
		}
	}
	child := below(t, b.ID, group)
	if c, ok := x.Take(child); !ok || !same(c, b) {
		t.Error(c, ok)
	}
	if x.Has(child) || x.Len() != 1 || !sameAll(x.All(), []cont.Cont{a}) {
		t.Error("it waits still")
	}
	if c, ok := x.Take(child); ok || !isZero(c) {
		t.Error("it was taken twice", c)
	}
	if c, ok := x.Take(below(t, a.ID, group)); !ok || !same(c, a) || x.Len() != 0 || len(x.All()) != 0 {
		t.Error(c, ok)
	}
}

// rising are calls by the order of their children in group 2: that is not the calls' own.
func rising() []ident.ID {
	return []ident.ID{
		id(one, 1, ident.Step{}),
		id(one, 1, ident.Step{Group: 1, Index: 9}),
		id(one, 1, ident.Step{Group: 1, Index: 9}, ident.Step{Group: 3}),
		id(one, 1),
		id(one, 1, ident.Step{Group: 2}, ident.Step{Group: 1}),
		id(one, 1, ident.Step{Group: 2}),
		id(one, 1, ident.Step{Group: 2, Index: 1}),
		id(one, 1, ident.Step{Group: 3}),
		id(one, 2),
		id(one, 300),
		id(again, 1),
		id(two, 1, ident.Step{Group: 1}),
		id(two, 1),
	}
}

// risingOnes are those of rising that may wait, each told from the others by its floor.
func risingOnes() []cont.Cont {
	var l []cont.Cont
	for i, d := range rising() {
		c := waits(d)
		c.Floor = uint32(i)
		if d.Depth == 0 {
			c.Rest = rest(1 + i%3)
		}
		l = append(l, c)
	}
	return l
}

// P1502: All, by the children's order.
func TestP1502All(t *testing.T) {
	want := risingOnes()
	for i := range want[1:] {
		if a, b := below(t, want[i].ID, group), below(t, want[i+1].ID, group); ident.Compare(a, b) >= 0 {
			t.Fatalf("the test's own list: %v, %v", a, b)
		}
	}
	if slices.IsSortedFunc(want, func(a, b cont.Cont) int { return ident.Compare(a.ID, b.ID) }) {
		t.Fatal("the calls rise, too")
	}
	rnd := rand.New(rand.NewSource(1502))
	for range 20 {
		x := cont.New(group)
		for _, i := range rnd.Perm(len(want)) {
			if _, e := x.Add(want[i]); e != api.OK {
				t.Fatal(e)
			}
		}
		if x.Len() != len(want) || !sameAll(x.All(), want) || !sameAll(x.Clone().All(), want) {
			t.Fatal(x.All())
		}
	}
}

// P1501: what is taken in shares nothing with the table, and is not changed.
func TestP1501TakenInApart(t *testing.T) {
	c := waits(id(one, 5))
	room := append(make([]part.Part, 0, 8), rest(3)...)
	c.Rest = room[:2]
	x := of(t, group, c)
	if !slices.Equal(room, rest(3)) {
		t.Error("what was handed in was changed")
	}
	spoil(room)
	if l := x.All(); len(l) != 1 || !slices.Equal(l[0].Rest, rest(2)) {
		t.Error(l)
	}
	x = cont.New(group)
	bad := waits(id(one, 5))
	bad.Rest = append(room[:0], part.Part{})
	x.Add(bad)
	if len(bad.Rest) != 1 || bad.Rest[0] != (part.Part{}) {
		t.Error("what was refused was changed")
	}
}

// P1501: what is told shares nothing with the table, or with another answer.
func TestP1501ToldApart(t *testing.T) {
	c := waits(id(one, 5))
	c.Rest = rest(3)
	x := of(t, group, c, waits(id(one, 6)))
	y := x.Clone()
	kept, all := x.All(), x.All()
	spoil(all[0].Rest)
	if !slices.Equal(all[1].Rest, waits(id(one, 6)).Rest) {
		t.Error("two lists of one answer share something")
	}
	spoil(all[1].Rest)
	for i := range all[:cap(all)] {
		all[:cap(all)][i] = cont.Cont{}
	}
	want := []cont.Cont{c, waits(id(one, 6))}
	if !sameAll(kept, want) || !sameAll(x.All(), want) || !sameAll(y.All(), want) {
		t.Error("what was told is changed in the table, in a clone, or in another answer")
	}
	taken, _ := y.Take(below(t, c.ID, group))
	spoil(taken.Rest)
	if !sameAll(x.All(), want) || !sameAll(kept, want) || !same(y.All()[0], want[1]) {
		t.Error("what was taken from a clone is changed in the table")
	}
	z := x.Clone()
	taken, _ = x.Take(below(t, c.ID, group))
	spoil(taken.Rest)
	if !sameAll(z.All(), want) {
		t.Error("what was taken from the table is changed in a clone")
	}
}

// P1502: a clone is the same, and goes its own way.
func TestP1502Clone(t *testing.T) {
	x := of(t, group, risingOnes()...)
	y := x.Clone()
	if !x.Same(y) || !y.Same(x) || !sameAll(x.All(), y.All()) || y.Len() != x.Len() {
		t.Fatal("a clone is another one")
	}
	if child, e := y.Add(waits(id(two, 9))); e != api.OK || child != below(t, id(two, 9), group) {
		t.Error("a clone is of another group", child, e)
	}
	if x.Len() != len(rising()) || x.Has(below(t, id(two, 9), group)) || x.Same(y) {
		t.Error("what was done to the clone is seen in the table")
	}
	x.Take(below(t, id(one, 1), group))
	if !y.Has(below(t, id(one, 1), group)) || y.Len() != len(rising())+1 {
		t.Error("what was done to the table is seen in the clone")
	}
	if z := cont.New(1).Clone(); z == nil || z.Len() != 0 || !z.Same(cont.New(1)) {
		t.Error("an empty table")
	}
}

// P1502: Same holds the group, and every field of all that waits.
func TestP1502Same(t *testing.T) {
	changed := func(change func(c *cont.Cont)) *cont.Table {
		c := waits(id(one, 5))
		change(&c)
		return of(t, group, c, waits(id(one, 6)))
	}
	plain := changed(func(*cont.Cont) {})
	others := map[string]*cont.Table{
		"nil":            nil,
		"unmade":         {},
		"empty":          cont.New(group),
		"of one":         of(t, group, waits(id(one, 5))),
		"of three":       of(t, group, waits(id(one, 5)), waits(id(one, 6)), waits(id(one, 7))),
		"another group":  of(t, group-1, waits(id(one, 5)), waits(id(one, 6))),
		"another call":   changed(func(c *cont.Cont) { c.ID.Seq = 7 }),
		"another client": changed(func(c *cont.Cont) { c.ID.Client = again }),
		"deeper":         changed(func(c *cont.Cont) { c.ID = id(one, 5, ident.Step{Group: group}) }),
		"First":          changed(func(c *cont.Cont) { c.First.N++ }),
		"Rest":           changed(func(c *cont.Cont) { c.Rest[0].Group = 3 }),
		"a longer Rest":  changed(func(c *cont.Cont) { c.Rest = append(c.Rest, c.Rest[0]) }),
		"Res":            changed(func(c *cont.Cont) { c.Res.Value = "4" }),
		"its Code":       changed(func(c *cont.Cont) { c.Res.Code = part.Poor }),
		"Old":            changed(func(c *cont.Cont) { c.Old.Value = "9" }),
		"its Key":        changed(func(c *cont.Cont) { c.Old.Key = "b" }),
		"its Has":        changed(func(c *cont.Cont) { c.Old.Has = false }),
		"Floor":          changed(func(c *cont.Cont) { c.Floor = 1 }),
	}
	for name, x := range others {
		if plain.Same(x) || x.Same(plain) {
			t.Errorf("%s: the same", name)
		}
		if !x.Same(x) {
			t.Errorf("%s: not the same as itself", name)
		}
	}
	turned := of(t, group, waits(id(one, 7)), waits(id(one, 6)), waits(id(one, 5)))
	turned.Take(below(t, id(one, 7), group))
	if !plain.Same(plain) || !plain.Same(turned) || !turned.Same(plain) {
		t.Error("what came in another order, or was taken, counts")
	}
	if !cont.New(3).Same(cont.New(3)) || cont.New(3).Same(cont.New(2)) {
		t.Error("empty tables")
	}
}

// P1502, P1504: whatever is added and taken, in any order, all is as a plain list has it, and what is added is taken once.
func TestP1504AnyOrder(t *testing.T) {
	rnd := rand.New(rand.NewSource(1504))
	for range 50 {
		g := uint8(rnd.Intn(api.MaxGroups))
		x := cont.New(g)
		there := map[ident.ID]cont.Cont{}
		for range 300 {
			d := id([]ident.Proc{one, again, two}[rnd.Intn(3)], uint32(1+rnd.Intn(20)))
			if rnd.Intn(2) == 0 {
				d = id(d.Client, d.Seq, ident.Step{Group: uint8(rnd.Intn(4))})
			}
			child := below(t, d, g)
			c := waits(d)
			c.Floor, c.Rest = uint32(rnd.Intn(99)), rest(1+rnd.Intn(2))
			was, waited := there[child]
			if x.Has(child) != waited {
				t.Fatalf("Has(%v): %v", child, !waited)
			}
			if rnd.Intn(3) == 0 {
				got, ok := x.Take(child)
				if ok != waited || !same(got, was) {
					t.Fatalf("Take(%v): %v, %v", child, got, ok)
				}
				delete(there, child)
				continue
			}
			want := api.OK
			switch {
			case waited:
				want = api.ErrThere
			case len(there) == 4*api.MaxWindow:
				want = api.ErrFull
			}
			if _, e := x.Add(c); e != want {
				t.Fatalf("Add(%v): %d, not %d", d, e, want)
			}
			if want == api.OK {
				there[child] = c
			}
			if x.Len() != len(there) {
				t.Fatalf("%d wait, not %d", x.Len(), len(there))
			}
		}
		for _, c := range x.All() {
			if !same(c, there[below(t, c.ID, g)]) {
				t.Fatal(c)
			}
		}
	}
}
