package view_test

import (
	"math"
	"math/rand"
	"slices"
	"strings"
	"testing"

	"gemot/api"
	"gemot/ident"
	"gemot/view"
)

// proc is a process.
func proc(node uint8, life uint16) ident.Proc {
	return ident.Proc{Node: node, Life: life}
}

// first are nodes in their first life.
func first(nodes ...uint8) []ident.Proc {
	var l []ident.Proc
	for _, n := range nodes {
		l = append(l, proc(n, 1))
	}
	return l
}

// of is the view with number 5 of group 2.
func of(members ...ident.Proc) view.View {
	return view.View{Group: 2, N: 5, Members: members}
}

// nodes are the first n of all nodes, in their first life.
func nodes(n int) []ident.Proc {
	var l []ident.Proc
	for i := range n {
		l = append(l, proc(uint8(i), 1))
	}
	return l
}

// rightOnes are right views of all lengths, with the edges of each field.
func rightOnes() []view.View {
	l := []view.View{
		{Group: 0, N: 1, Members: first(0)},
		{Group: api.MaxGroups - 1, N: math.MaxUint32, Members: first(15, 3, 0)},
		of(proc(api.MaxNodes-1, math.MaxUint16), proc(0, 1)),
		of(proc(2, 7), proc(1, 7), proc(0, 7)),
	}
	for n := 1; n <= api.MaxView; n++ {
		l = append(l, of(nodes(n)...))
	}
	return l
}

// wrongOnes are views that there may not be, each but for one thing right.
func wrongOnes() []view.View {
	return []view.View{
		{},
		{Group: api.MaxGroups, N: 1, Members: first(0)},
		{Group: 255, N: 1, Members: first(0)},
		{Group: 0, N: 0, Members: first(0)},
		{Group: 0, N: 1},
		{Group: 0, N: 1, Members: []ident.Proc{}},
		of(nodes(api.MaxView + 1)...),
		of(make([]ident.Proc, 1000)...),
		of(proc(api.MaxNodes, 1)),
		of(proc(255, 1)),
		of(proc(0, 0)),
		of(ident.Proc{}),
		of(proc(0, 1), proc(1, 0)),
		of(proc(1, 1), proc(16, 1), proc(2, 1)),
		of(proc(1, 1), proc(1, 1)),
		of(proc(1, 1), proc(1, 2)),
		of(proc(1, 2), proc(0, 1), proc(1, 1)),
		of(proc(3, 1), proc(0, 1), proc(1, 1), proc(0, 9)),
		of(append(nodes(api.MaxView-1), proc(0, 2))...),
	}
}

// P602: which views there may be.
func TestP602Right(t *testing.T) {
	for _, v := range rightOnes() {
		if !v.Right() {
			t.Errorf("%v is right", v)
		}
	}
	for _, v := range wrongOnes() {
		if v.Right() {
			t.Errorf("%v is not right", v)
		}
	}
}

// P602: a group's first view is right with the number 1, or there is none.
func TestP602First(t *testing.T) {
	for _, v := range append(rightOnes(), wrongOnes()...) {
		want := view.View{Group: v.Group, N: 1, Members: v.Members}
		e := api.OK
		if !want.Right() {
			want, e = view.View{}, api.ErrArg
		}
		if got, err := view.First(v.Group, v.Members); err != e || !view.Same(got, want) {
			t.Errorf("First(%d, %v): %v, %d", v.Group, v.Members, got, err)
		}
	}
	if got, e := view.First(1, first(0, 2)); e != api.OK || got.Group != 1 || got.N != 1 || !slices.Equal(got.Members, first(0, 2)) {
		t.Error(got, e)
	}
	if got, e := view.First(1, nil); e != api.ErrArg || !view.Same(got, view.View{}) {
		t.Error(got, e)
	}
}

// P602: members' places, and the first one, in views that may not be, too.
func TestP602RankAndHead(t *testing.T) {
	v := of(proc(3, 2), proc(0, 1), proc(7, 9))
	for i, p := range v.Members {
		if v.Rank(p) != i {
			t.Errorf("Rank(%v): %d, not %d", p, v.Rank(p), i)
		}
	}
	for _, p := range []ident.Proc{{}, proc(3, 1), proc(3, 3), proc(2, 2), proc(0, 0), proc(255, 65535)} {
		if v.Rank(p) != -1 {
			t.Errorf("Rank(%v): %d, not -1", p, v.Rank(p))
		}
	}
	if v.Head() != proc(3, 2) || of(proc(200, 0)).Head() != proc(200, 0) {
		t.Error("Head")
	}
	for _, none := range []view.View{{}, of(), {Members: []ident.Proc{}}} {
		if none.Rank(ident.Proc{}) != -1 || none.Rank(proc(0, 1)) != -1 || none.Head() != (ident.Proc{}) {
			t.Errorf("%v has nobody", none)
		}
	}
	if twice := of(proc(1, 1), proc(200, 0), proc(200, 0)); twice.Rank(proc(200, 0)) != 1 || twice.Rank(proc(1, 1)) != 0 {
		t.Error("Rank of a view that is not right")
	}
}

// P602: more than half.
func TestP602Majority(t *testing.T) {
	want := []int{1, 1, 2, 2, 3, 3, 4, 4, 5, 5, 6}
	for n, m := range want {
		if got := of(nodes(n)...).Majority(); got != m {
			t.Errorf("Majority of %d: %d, not %d", n, got, m)
		}
	}
	if got := of(make([]ident.Proc, 1001)...).Majority(); got != 501 {
		t.Error(got)
	}
}

// P602: each member counts once, others not at all.
func TestP602Quorum(t *testing.T) {
	three, four := of(first(0, 1, 2)...), of(first(4, 3, 2, 1)...)
	cases := []struct {
		v    view.View
		l    []ident.Proc
		want bool
	}{
		{three, nil, false},
		{three, []ident.Proc{}, false},
		{three, first(0), false},
		{three, first(0, 0, 0), false},
		{three, first(2, 1), true},
		{three, first(0, 2), true},
		{three, first(0, 5, 0, 6, 2, 7), true},
		{three, first(0, 5, 6), false},
		{three, []ident.Proc{proc(0, 1), proc(1, 2), proc(2, 2)}, false},
		{three, []ident.Proc{proc(0, 1), proc(0, 2)}, false},
		{three, make([]ident.Proc, 9), false},
		{three, first(0, 1, 2), true},
		{four, first(1, 2), false},
		{four, first(1, 2, 2, 1), false},
		{four, first(1, 2, 3), true},
		{four, first(3, 4, 1), true},
		{of(first(9)...), first(9), true},
		{of(first(9)...), first(8), false},
		{of(), nil, false},
		{of(), first(0, 1), false},
		{view.View{}, []ident.Proc{{}}, false},
		{view.View{Members: []ident.Proc{{}}}, []ident.Proc{{}}, true}, // of any view: it need not be right
		{of(proc(200, 0), proc(0, 1)), []ident.Proc{proc(200, 0), proc(200, 0)}, false},
		{of(proc(200, 0), proc(0, 1)), []ident.Proc{proc(0, 1), proc(200, 0)}, true},
	}
	for _, c := range cases {
		if got := c.v.Quorum(c.l); got != c.want {
			t.Errorf("%s: Quorum(%v): %v", view.Show(c.v), c.l, got)
		}
	}
	for n := 1; n <= api.MaxView; n++ {
		v := of(nodes(n)...)
		for have := range n + 1 {
			if got := v.Quorum(v.Members[n-have:]); got != (2*have > n) {
				t.Errorf("%d of %d: %v", have, n, got)
			}
		}
	}
}

// P601: long lists are answered, too.
func TestP601LongLists(t *testing.T) {
	const n = 1 << 17
	l := make([]ident.Proc, n)
	for i := range l {
		l[i] = proc(uint8(i), uint16(i>>8))
	}
	v := of(l...)
	if v.Right() || !v.Quorum(l) || !v.Quorum(l[:n/2+1]) || v.Quorum(l[n/2:]) || v.Quorum(l[:9]) || v.Rank(l[n-1]) != n-1 {
		t.Error("a long view")
	}
	if _, e := v.Next(l, l); e != api.ErrArg {
		t.Error(e)
	}
	small := of(first(0, 1, 2)...)
	if w, e := small.Next(l[:256], nil); e != api.OK || !slices.Equal(w.Members, small.Members) { // all of life 0
		t.Error(w, e)
	}
	if w, e := small.Next(l[:512], nil); e != api.ErrBlock || !view.Same(w, view.View{}) {
		t.Error(w, e)
	}
	if _, e := small.Next(nil, l); e != api.ErrBlock { // all nodes get another life
		t.Error(e)
	}
	if got := view.Show(v); len(got) < n || !strings.HasPrefix(got, "g2 v5: 0.0 1.0 ") {
		t.Error(len(got))
	}
	if _, e := view.First(0, l); e != api.ErrArg || !view.Same(v, v.Clone()) {
		t.Error(e)
	}
}

// P603: the members behind members who go and come.
func TestP603Next(t *testing.T) {
	three := of(first(0, 1, 2)...)
	cases := []struct {
		v         view.View
		drop, add []ident.Proc
		want      []ident.Proc
	}{
		{three, nil, nil, first(0, 1, 2)},
		{three, []ident.Proc{}, []ident.Proc{}, first(0, 1, 2)},
		{three, first(0), nil, first(1, 2)},
		{three, first(1), nil, first(0, 2)},
		{three, first(2, 2, 2, 9), nil, first(0, 1)},
		{three, []ident.Proc{proc(0, 2), proc(1, 0), {}, proc(255, 1)}, nil, first(0, 1, 2)}, // others than the members
		{three, nil, first(3), first(0, 1, 2, 3)},
		{three, nil, first(9, 3, 5), first(0, 1, 2, 9, 3, 5)},
		{three, nil, first(3, 3, 0, 3), first(0, 1, 2, 3)},
		{three, nil, []ident.Proc{proc(1, 2)}, []ident.Proc{proc(0, 1), proc(1, 2), proc(2, 1)}},
		{three, nil, []ident.Proc{proc(0, 2), proc(7, 1)}, []ident.Proc{proc(0, 2), proc(1, 1), proc(2, 1), proc(7, 1)}},
		{three, nil, []ident.Proc{proc(3, 1), proc(3, 5), proc(3, 2)}, []ident.Proc{proc(0, 1), proc(1, 1), proc(2, 1), proc(3, 2)}},
		{three, nil, []ident.Proc{proc(3, 1), proc(4, 1), proc(3, 5)}, []ident.Proc{proc(0, 1), proc(1, 1), proc(2, 1), proc(3, 5), proc(4, 1)}},
		{three, nil, []ident.Proc{proc(2, 2), proc(2, 1)}, first(0, 1, 2)}, // replaced, and again
		{three, nil, []ident.Proc{{}, proc(3, 0), proc(16, 1), proc(255, 65535), proc(1, 0)}, first(0, 1, 2)},
		{three, first(0), first(0), first(1, 2, 0)}, // who is dropped and added comes back as the last
		{three, first(0), []ident.Proc{proc(0, 2)}, []ident.Proc{proc(1, 1), proc(2, 1), proc(0, 2)}},
		{three, first(3), first(3), first(0, 1, 2, 3)}, // those of drop are taken from the members alone
		{three, first(1), first(4, 5, 6, 7, 8, 9), first(0, 2, 4, 5, 6, 7, 8, 9)},
		{of(first(6)...), nil, first(1, 2, 3, 4, 5, 7, 8), first(6, 1, 2, 3, 4, 5, 7, 8)},
		{of(nodes(api.MaxView)...), nil, []ident.Proc{proc(7, 2), proc(0, 2), proc(3, 2)}, []ident.Proc{proc(0, 2), proc(1, 1), proc(2, 1), proc(3, 2), proc(4, 1), proc(5, 1), proc(6, 1), proc(7, 2)}},
		{of(nodes(api.MaxView)...), first(4), first(9), first(0, 1, 2, 3, 5, 6, 7, 9)},
		{of(nodes(api.MaxView)...), first(0, 1, 2), first(10, 11, 12), first(3, 4, 5, 6, 7, 10, 11, 12)},
		{of(first(0, 1, 2, 3)...), first(3), nil, first(0, 1, 2)},
		{of(proc(3, 9), proc(4, 9)), nil, []ident.Proc{proc(5, math.MaxUint16), proc(15, 1)}, []ident.Proc{proc(3, 9), proc(4, 9), proc(5, math.MaxUint16), proc(15, 1)}},
	}
	for _, c := range cases {
		want := view.View{Group: c.v.Group, N: c.v.N + 1, Members: c.want}
		if got, e := c.v.Next(c.drop, c.add); e != api.OK || !view.Same(got, want) {
			t.Errorf("%s: Next(%v, %v): %s, %d, not %s", view.Show(c.v), c.drop, c.add, view.Show(got), e, view.Show(want))
		}
	}
	last := view.View{Group: 3, N: math.MaxUint32 - 1, Members: first(0)}
	if got, e := last.Next(nil, nil); e != api.OK || got.N != math.MaxUint32 || got.Group != 3 {
		t.Error(got, e)
	}
}

// P603: what there is no next view of, and which error is told first.
func TestP603Errors(t *testing.T) {
	three, eight := of(first(0, 1, 2)...), of(nodes(api.MaxView)...)
	last := view.View{Group: 0, N: math.MaxUint32, Members: nodes(api.MaxView)}
	wrongLast := view.View{Group: 4, N: math.MaxUint32, Members: nodes(api.MaxView)}
	cases := []struct {
		v         view.View
		drop, add []ident.Proc
		want      api.Errno
	}{
		{last, nil, nil, api.ErrRange},
		{last, last.Members, nil, api.ErrRange},
		{last, nil, first(9), api.ErrRange},
		{wrongLast, nil, nil, api.ErrArg},
		{three, first(0, 1), nil, api.ErrBlock},
		{three, first(0, 1, 2), nil, api.ErrBlock},
		{three, first(1, 2), first(3, 4, 5), api.ErrBlock},
		{three, first(1, 2), []ident.Proc{proc(1, 2), proc(2, 2)}, api.ErrBlock},
		{three, nil, []ident.Proc{proc(1, 2), proc(2, 2)}, api.ErrBlock}, // in another life it is another one
		{three, first(0), []ident.Proc{proc(1, 2)}, api.ErrBlock},
		{of(first(0, 1, 2, 3)...), first(0, 1), nil, api.ErrBlock},
		{of(first(0)...), nil, []ident.Proc{proc(0, 2)}, api.ErrBlock},
		{of(first(0)...), first(0), first(1), api.ErrBlock},
		{eight, nil, first(8), api.ErrFull},
		{eight, first(0), first(8, 9), api.ErrFull},
		{eight, first(0), first(8, 0), api.ErrFull},
		{eight, nil, first(8, 9, 10, 11, 12, 13, 14, 15), api.ErrFull},
		{three, nil, first(3, 4, 5, 6, 7, 8), api.ErrFull},
		{eight, first(0, 1, 2, 3), first(8, 9, 10, 11, 12), api.ErrBlock}, // full as well
	}
	for _, c := range cases {
		if got, e := c.v.Next(c.drop, c.add); e != c.want || !view.Same(got, view.View{}) {
			t.Errorf("%s: Next(%v, %v): %v, %d, not %d", view.Show(c.v), c.drop, c.add, got, e, c.want)
		}
	}
	for _, v := range wrongOnes() {
		if got, e := v.Next(nil, nil); e != api.ErrArg || !view.Same(got, view.View{}) {
			t.Errorf("Next of %v: %v, %d", v, got, e)
		}
	}
}

// slowNext is Next of a right view as the chapter tells it, one process after the other.
func slowNext(v view.View, drop, add []ident.Proc) (view.View, api.Errno) {
	var l []ident.Proc
	for _, p := range v.Members {
		stays := true
		for _, q := range drop {
			stays = stays && q != p
		}
		if stays {
			l = append(l, p)
		}
	}
	for _, p := range add {
		found := !(p.Node < 16 && p.Life >= 1)
		for i := 0; i < len(l) && !found; i++ {
			if l[i].Node == p.Node {
				l[i], found = p, true
			}
		}
		if !found {
			l = append(l, p)
		}
	}
	if 2*shared(v.Members, l) <= len(v.Members) {
		return view.View{}, api.ErrBlock
	}
	if len(l) > 8 {
		return view.View{}, api.ErrFull
	}
	return view.View{Group: v.Group, N: v.N + 1, Members: l}, api.OK
}

// shared is how many of a are in b.
func shared(a, b []ident.Proc) int {
	n := 0
	for _, p := range a {
		for _, q := range b {
			if p == q {
				n++
				break
			}
		}
	}
	return n
}

// some are up to most processes, some of them not right, some of one node.
func some(rnd *rand.Rand, most int) []ident.Proc {
	var l []ident.Proc
	for range rnd.Intn(most + 1) {
		l = append(l, proc(uint8(rnd.Intn(18)), uint16(rnd.Intn(3))))
	}
	return l
}

// P603, P606: rows of views, as the chapter tells them; each shares more than half with the one ahead of it.
func TestP606Rows(t *testing.T) {
	rnd := rand.New(rand.NewSource(606))
	met := map[api.Errno]int{}
	for range 3000 {
		v := of(nodes(1 + rnd.Intn(api.MaxView))...)
		for range 20 {
			drop, add := some(rnd, 5), some(rnd, 6)
			got, e := v.Next(drop, add)
			want, err := slowNext(v, drop, add)
			if e != err || !view.Same(got, want) {
				t.Fatalf("%s: Next(%v, %v): %s, %d, not %s, %d", view.Show(v), drop, add, view.Show(got), e, view.Show(want), err)
			}
			met[e]++
			if e != api.OK {
				continue
			}
			if !got.Right() || 2*shared(v.Members, got.Members) <= len(v.Members) || !v.Quorum(got.Members) {
				t.Fatalf("%s behind %s", view.Show(got), view.Show(v))
			}
			v = got
		}
	}
	if met[api.OK] == 0 || met[api.ErrBlock] == 0 || met[api.ErrFull] == 0 {
		t.Error(met)
	}
}

// P606: of any view, two quorums share a member.
func TestP606Quorums(t *testing.T) {
	for n := range api.MaxView + 1 {
		v := of(nodes(n)...)
		var quorums []uint
		for set := range uint(1) << n {
			var l []ident.Proc
			for i, p := range v.Members {
				if set>>i&1 == 1 {
					l = append(l, p)
				}
			}
			if v.Quorum(l) {
				quorums = append(quorums, set)
			}
		}
		if (len(quorums) == 0) != (n == 0) {
			t.Errorf("%d quorums of %d", len(quorums), n)
		}
		for _, a := range quorums {
			for _, b := range quorums {
				if a&b == 0 {
					t.Fatalf("%b and %b of %d share nobody", a, b, n)
				}
			}
		}
	}
}

// P604: views are the same in all fields; nil and empty lists mean the same.
func TestP604Same(t *testing.T) {
	v := of(first(0, 1)...)
	others := []view.View{
		{},
		{Group: 1, N: 5, Members: first(0, 1)},
		{Group: 2, N: 4, Members: first(0, 1)},
		of(),
		of(first(0)...),
		of(first(1, 0)...),
		of(first(0, 1, 2)...),
		of(first(0, 2)...),
		of(proc(0, 1), proc(1, 2)),
	}
	for _, o := range others {
		if view.Same(v, o) || view.Same(o, v) {
			t.Errorf("%v is not %v", v, o)
		}
	}
	for _, o := range append(others, v) {
		if !view.Same(o, o) || !view.Same(o, o.Clone()) || !view.Same(o.Clone(), o) {
			t.Errorf("%v is itself", o)
		}
	}
	if !view.Same(view.View{}, view.View{Members: []ident.Proc{}}) || !view.Same(view.View{Members: []ident.Proc{}}, view.View{}) {
		t.Error("nil and empty")
	}
}

// P604: views as text, right or not.
func TestP604Show(t *testing.T) {
	cases := []struct {
		v    view.View
		want string
	}{
		{view.View{Group: 1, N: 1, Members: first(0, 2)}, "g1 v1: 0.1 2.1"},
		{view.View{}, "g0 v0:"},
		{of(), "g2 v5:"},
		{of(proc(15, 65535)), "g2 v5: 15.65535"},
		{view.View{Group: 255, N: math.MaxUint32, Members: []ident.Proc{proc(255, 0), {}}}, "g255 v4294967295: 255.0 0.0"},
	}
	for _, c := range cases {
		if got := view.Show(c.v); got != c.want {
			t.Errorf("Show(%v): %q, not %q", c.v, got, c.want)
		}
	}
}

// room are the processes with room behind them, all of it marked.
func room(l ...ident.Proc) []ident.Proc {
	out := append(make([]ident.Proc, 0, len(l)+20), l...)
	behind := out[len(out):cap(out)]
	for i := range behind {
		behind[i] = proc(99, 99)
	}
	return out
}

// spoil changes a list and all the room behind it.
func spoil(l []ident.Proc) {
	l = l[:cap(l)]
	for i := range l {
		l[i] = proc(77, 77)
	}
}

// P601: what is handed in is not changed, nor the room behind it.
func TestP601NothingChanges(t *testing.T) {
	members, drop, add := room(first(0, 1, 2)...), room(first(2, 1)...), room(proc(9, 1), proc(3, 1), proc(0, 2))
	members2, drop2, add2 := slices.Clone(members[:cap(members)]), slices.Clone(drop[:cap(drop)]), slices.Clone(add[:cap(add)])
	v := view.View{Group: 2, N: 5, Members: members}
	view.First(2, members)
	v.Right()
	v.Rank(proc(0, 1))
	v.Head()
	v.Majority()
	v.Quorum(drop)
	v.Quorum(add)
	for _, d := range [][]ident.Proc{nil, drop[:1], drop} {
		for n := range len(add) + 1 {
			v.Next(d, add[:n])
		}
	}
	v.Clone()
	view.Same(v, v)
	view.Show(v)
	for i, l := range [][]ident.Proc{members, drop, add} {
		if !slices.Equal(l[:cap(l)], [][]ident.Proc{members2, drop2, add2}[i]) {
			t.Errorf("list %d has changed: %v", i, l[:cap(l)])
		}
	}
}

// P601: what is told is apart from what was handed in, and from other answers.
func TestP601Apart(t *testing.T) {
	for _, tell := range []func(members, drop, add []ident.Proc) view.View{
		func(members, drop, add []ident.Proc) view.View {
			v, _ := view.First(2, members)
			return v
		},
		func(members, drop, add []ident.Proc) view.View {
			return view.View{Group: 2, N: 5, Members: members}.Clone()
		},
		func(members, drop, add []ident.Proc) view.View {
			v, _ := view.View{Group: 2, N: 5, Members: members}.Next(nil, nil)
			return v
		},
		func(members, drop, add []ident.Proc) view.View {
			v, _ := view.View{Group: 2, N: 5, Members: members}.Next(drop, add)
			return v
		},
	} {
		members, drop, add := room(first(0, 1, 2)...), room(first(1)...), room(first(5, 6)...)
		a, b := tell(members, drop, add), tell(members, drop, add)
		want := append([]ident.Proc(nil), a.Members...)
		if len(want) < 3 {
			t.Fatal(want)
		}
		spoil(members)
		spoil(drop)
		spoil(add)
		spoil(a.Members)
		if !slices.Equal(b.Members, want) {
			t.Errorf("%v was %v", b.Members, want)
		}
	}
}

// P601: a clone is the same in all fields, of views that may not be, too.
func TestP601Clone(t *testing.T) {
	for _, v := range append(rightOnes(), wrongOnes()...) {
		c := v.Clone()
		if c.Group != v.Group || c.N != v.N || !slices.Equal(c.Members, v.Members) {
			t.Errorf("Clone of %v: %v", v, c)
		}
	}
}

// The chapter's example.
func TestExamples(t *testing.T) {
	v, e := view.First(1, first(0, 2))
	if e != api.OK || view.Show(v) != "g1 v1: 0.1 2.1" || v.Majority() != 2 {
		t.Error(view.Show(v), v.Majority(), e)
	}
}
