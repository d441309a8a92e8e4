package amo_test

import (
	"math"
	"math/rand"
	"slices"
	"strconv"
	"testing"

	"gemot/amo"
	"gemot/api"
	"gemot/ident"
	"gemot/part"
)

var (
	one   = ident.Proc{Node: 1, Life: 1}
	again = ident.Proc{Node: 1, Life: 2} // the same node's next life, which is another client
	two   = ident.Proc{Node: 2, Life: 1}
)

// root is a client's own call.
func root(client ident.Proc, seq uint32) ident.ID {
	return ident.ID{Client: client, Seq: seq}
}

// child is a call that was made for a client's call.
func child(client ident.Proc, seq uint32, steps ...ident.Step) ident.ID {
	d := ident.ID{Client: client, Seq: seq, Depth: uint8(len(steps))}
	copy(d.Path[:], steps)
	return d
}

// res is a result that is told from others by its number.
func res(n int) part.Res {
	return part.Res{Value: strconv.Itoa(n)}
}

// begun is a table in which these calls have begun.
func begun(t *testing.T, window int, l ...ident.ID) *amo.Table {
	t.Helper()
	x := amo.New(window)
	for _, d := range l {
		if e := x.Begin(d); e != api.OK {
			t.Fatalf("Begin(%v): %d", d, e)
		}
	}
	return x
}

// ended is a table in which these calls have begun and ended, each with its place as result.
func ended(t *testing.T, window int, l ...ident.ID) *amo.Table {
	t.Helper()
	x := begun(t, window, l...)
	for i, d := range l {
		if !x.End(d, res(i)) {
			t.Fatalf("End(%v)", d)
		}
	}
	return x
}

// stands holds the states of calls against those that are wanted.
func stands(t *testing.T, x *amo.Table, want map[ident.ID]int) {
	t.Helper()
	for d, s := range want {
		if got := x.State(d); got != s {
			t.Errorf("State(%v): %d, not %d", d, got, s)
		}
	}
}

// ids are the calls of rows.
func ids(l []amo.Row) []ident.ID {
	var all []ident.ID
	for _, r := range l {
		all = append(all, r.ID)
	}
	return all
}

// P1401: nil tables, and those that New did not make.
func TestP1401Unmade(t *testing.T) {
	for _, x := range []*amo.Table{nil, {}, new(amo.Table)} {
		d := root(one, 1)
		x.Raise(one, 1)
		if x.State(d) != amo.Old || x.State(ident.ID{}) != amo.Old || x.State(child(one, 9, ident.Step{})) != amo.Old {
			t.Error("State")
		}
		if x.Begin(d) != api.ErrArg || x.Begin(ident.ID{}) != api.ErrArg || x.End(d, res(1)) || x.Floor(one) != 0 {
			t.Error("Begin, End or Floor")
		}
		if r, ok := x.Res(d); ok || r != (part.Res{}) {
			t.Error(r, ok)
		}
		if x.Len() != 0 || len(x.All()) != 0 || x.Clone() != nil {
			t.Error("Len, All or Clone")
		}
		if !x.Same(nil) || !x.Same(&amo.Table{}) || x.Same(amo.New(1)) || amo.New(1).Same(x) {
			t.Error("Same")
		}
		if x.State(d) != amo.Old || x.Len() != 0 {
			t.Error("something was noted")
		}
	}
}

// P1401: the numbers of the states.
func TestP1401States(t *testing.T) {
	if got := []int{amo.Fresh, amo.Running, amo.Ended, amo.Old, amo.Far}; !slices.Equal(got, []int{0, 1, 2, 3, 4}) {
		t.Error(got)
	}
}

// P1402: a window below 1 counts as 1, above MaxWindow as that; how far it goes.
func TestP1402Window(t *testing.T) {
	cases := []struct {
		window int
		want   uint32
	}{
		{math.MinInt, 1}, {-1, 1}, {0, 1}, {1, 1}, {2, 2}, {3, 3}, {15, 15}, {16, 16}, {17, 16}, {1 << 32, 16}, {1<<32 + 3, 16}, {math.MaxInt, 16},
	}
	for _, c := range cases {
		for _, floor := range []uint32{0, 1, 5, api.MaxSeq - 20} {
			x := amo.New(c.window)
			x.Raise(one, floor)
			stands(t, x, map[ident.ID]int{
				root(one, floor):                   amo.Old,
				root(one, floor+1):                 amo.Fresh,
				root(one, floor+c.want):            amo.Fresh,
				root(one, floor+c.want+1):          amo.Far,
				root(one, api.MaxSeq):              amo.Far,
				root(two, 1):                       amo.Fresh,
				root(two, c.want+1):                amo.Far,
				child(one, floor, ident.Step{}):    amo.Fresh,
				child(one, floor+40, ident.Step{}): amo.Fresh,
			})
			if e := x.Begin(root(one, floor+c.want+1)); e != api.ErrBusy {
				t.Errorf("window %d, floor %d: Begin of a far one is %d", c.window, floor, e)
			}
			if e := x.Begin(root(one, floor+c.want)); e != api.OK {
				t.Errorf("window %d, floor %d: Begin of the last one is %d", c.window, floor, e)
			}
		}
	}
}

// P1402: the states of one call, from fresh to old.
func TestP1402StatesOfARoot(t *testing.T) {
	x, d := amo.New(2), root(one, 1)
	if x.State(d) != amo.Fresh || x.End(d, res(1)) {
		t.Error("a fresh one")
	}
	if x.Begin(d) != api.OK || x.State(d) != amo.Running || x.Begin(d) != api.ErrThere {
		t.Error("a running one")
	}
	if r, ok := x.Res(d); ok || r != (part.Res{}) {
		t.Error("a running one has a result", r)
	}
	if !x.End(d, part.Res{Code: part.Poor, Value: "5"}) || x.State(d) != amo.Ended || x.Begin(d) != api.ErrThere {
		t.Error("an ended one")
	}
	if r, ok := x.Res(d); !ok || r != (part.Res{Code: part.Poor, Value: "5"}) {
		t.Error(r, ok)
	}
	if x.End(d, res(9)) {
		t.Error("it ended twice")
	}
	if r, _ := x.Res(d); r.Value != "5" {
		t.Error("the second end was noted", r)
	}
	x.Raise(one, 1)
	if x.State(d) != amo.Old || x.Begin(d) != api.ErrOld || x.End(d, res(1)) || x.Len() != 0 {
		t.Error("an old one")
	}
	if r, ok := x.Res(d); ok || r != (part.Res{}) {
		t.Error("an old one has a result", r)
	}
}

// P1402: a call that ends with the zero result has ended, too.
func TestP1402ZeroResult(t *testing.T) {
	x, d := begun(t, 1, root(one, 1)), root(one, 1)
	if !x.End(d, part.Res{}) || x.State(d) != amo.Ended {
		t.Error(x.State(d))
	}
	if r, ok := x.Res(d); !ok || r != (part.Res{}) {
		t.Error(r, ok)
	}
}

// P1402: Begin of calls that may not be, which comes ahead of all else.
func TestP1402BeginOfWrongOnes(t *testing.T) {
	x := amo.New(2)
	x.Raise(one, 5)
	wrong := []ident.ID{
		{},
		root(ident.Proc{Node: api.MaxNodes, Life: 1}, 1),
		root(ident.Proc{Node: 1}, 1),
		root(one, 0),
		root(one, api.MaxSeq+1),
		root(one, math.MaxUint32),
		child(one, 6, ident.Step{Group: api.MaxGroups}),
		{Client: one, Seq: 6, Depth: api.MaxDepth + 1},
		{Client: one, Seq: 6, Depth: 255},
		{Client: one, Seq: 6, Path: [3]ident.Step{{Index: 1}}},
	}
	for _, d := range wrong {
		if e := x.Begin(d); e != api.ErrArg {
			t.Errorf("Begin(%v): %d", d, e)
		}
		if x.End(d, res(1)) || x.State(d) == amo.Running || x.State(d) == amo.Ended {
			t.Errorf("%v is noted", d)
		}
		if _, ok := x.Res(d); ok {
			t.Errorf("%v has a result", d)
		}
	}
	if x.Len() != 0 {
		t.Error(x.All())
	}
	stands(t, x, map[ident.ID]int{
		{}:                                    amo.Old, // 0 is at most any floor
		root(one, 0):                          amo.Old,
		root(one, math.MaxUint32):             amo.Far,
		{Client: one, Seq: 1, Depth: 4}:       amo.Fresh, // with steps it is no root
		{Client: one, Seq: 1 << 30, Depth: 9}: amo.Fresh,
	})
}

// P1402: a child is never old or far, and is noted for ever.
func TestP1402Children(t *testing.T) {
	a, b := child(one, 1, ident.Step{}), child(one, 900, ident.Step{Group: 3}, ident.Step{Index: 255}, ident.Step{Group: 1})
	x := begun(t, 1, a, b)
	x.Raise(one, 800)
	stands(t, x, map[ident.ID]int{a: amo.Running, b: amo.Running, child(one, 2, ident.Step{}): amo.Fresh, root(one, 1): amo.Old, root(one, 900): amo.Far})
	if !x.End(a, res(1)) || x.State(a) != amo.Ended {
		t.Error("a child below the floor did not end with its result")
	}
	x.Raise(one, 1000)
	if r, ok := x.Res(a); !ok || r != res(1) || x.Begin(a) != api.ErrThere {
		t.Error("a child that ended is forgotten")
	}
	if e := x.Begin(child(one, 2, ident.Step{})); e != api.OK {
		t.Error(e)
	}
	if e := x.Begin(child(one, 1<<20, ident.Step{})); e != api.OK || x.Len() != 4 {
		t.Error(e)
	}
}

// P1402: what Raise takes in.
func TestP1402Raise(t *testing.T) {
	cases := []struct {
		p       ident.Proc
		n, want uint32
	}{
		{one, 5, 5}, {one, 4, 5}, {one, 0, 5}, {one, 5, 5}, {one, 6, 6},
		{one, api.MaxSeq + 1, 6}, {one, math.MaxUint32, 6}, {one, api.MaxSeq, api.MaxSeq},
		{two, 3, 3}, {again, 0, 0}, {again, 1, 1},
		{ident.Proc{}, 3, 0}, {ident.Proc{Node: 3}, 3, 0}, {ident.Proc{Node: api.MaxNodes, Life: 1}, 3, 0}, {ident.Proc{Node: 255, Life: 2}, 3, 0},
		{ident.Proc{Node: api.MaxNodes - 1, Life: math.MaxUint16}, 7, 7},
	}
	x := amo.New(4)
	for _, c := range cases {
		x.Raise(c.p, c.n)
		if got := x.Floor(c.p); got != c.want {
			t.Errorf("Floor behind Raise(%v, %d): %d, not %d", c.p, c.n, got, c.want)
		}
	}
	if x.Floor(one) != api.MaxSeq || x.Floor(ident.Proc{Node: 9, Life: 9}) != 0 || x.State(root(one, api.MaxSeq)) != amo.Old {
		t.Error(x.Floor(one))
	}
	if x.Len() != 0 {
		t.Error(x.All())
	}
}

// P1402: behind Raise those roots are noted no more that are of the process, have ended and are old, and no other ones.
func TestP1402RaiseForgets(t *testing.T) {
	gone := []ident.ID{root(one, 1), root(one, 3)}
	stay := []ident.ID{root(one, 4), root(one, 5), root(again, 1), root(two, 3), child(one, 1, ident.Step{}), child(one, 3, ident.Step{Group: 1})}
	x := ended(t, 8, append(slices.Clone(gone), stay...)...)
	if e := x.Begin(root(one, 2)); e != api.OK {
		t.Fatal(e)
	}
	x.Raise(one, 3)
	for _, d := range gone {
		if _, ok := x.Res(d); ok || x.State(d) != amo.Old {
			t.Errorf("%v is noted still", d)
		}
	}
	for i, d := range stay {
		if r, ok := x.Res(d); !ok || r != res(i+len(gone)) || x.State(d) != amo.Ended {
			t.Errorf("%v: %v", d, r)
		}
	}
	if x.State(root(one, 2)) != amo.Running || x.Len() != len(stay)+1 {
		t.Error(x.All())
	}
	x.Raise(one, 2)
	x.Raise(one, 3)
	if x.Len() != len(stay)+1 {
		t.Error("a floor that is no more than before changed something")
	}
}

// P1402: a root that runs while it grows old is running till it ends, and is then noted no more.
func TestP1402EndOfAnOldOne(t *testing.T) {
	x := begun(t, 2, root(one, 1), root(one, 2))
	x.Raise(one, 1)
	if x.State(root(one, 1)) != amo.Running || x.Begin(root(one, 1)) != api.ErrThere || x.Len() != 2 {
		t.Error("it does not run any more")
	}
	if !x.End(root(one, 1), res(1)) || x.Len() != 1 || x.State(root(one, 1)) != amo.Old || x.Begin(root(one, 1)) != api.ErrOld {
		t.Error("it is noted still")
	}
	if _, ok := x.Res(root(one, 1)); ok || x.End(root(one, 1), res(1)) {
		t.Error("it has a result, or ended twice")
	}
	if !x.End(root(one, 2), res(2)) || x.State(root(one, 2)) != amo.Ended {
		t.Error("the other one")
	}
}

// P1402: the chapter's example: with window 2, calls 1 and 2 begin, 3 is far; behind Raise 1 it is fresh.
func TestP1402Example(t *testing.T) {
	x := begun(t, 2, root(one, 1), root(one, 2))
	if x.State(root(one, 3)) != amo.Far || x.Begin(root(one, 3)) != api.ErrBusy {
		t.Error("3 is not far")
	}
	x.Raise(one, 1)
	if x.State(root(one, 3)) != amo.Fresh || x.Begin(root(one, 3)) != api.OK {
		t.Error("3 is not fresh")
	}
}

// P1403: All and Len, by the order of calls.
func TestP1403All(t *testing.T) {
	l := []ident.ID{
		root(one, 1), child(one, 1, ident.Step{}), child(one, 1, ident.Step{}, ident.Step{Group: 2}), child(one, 1, ident.Step{Index: 1}), child(one, 1, ident.Step{Group: 1}),
		root(one, 2), root(one, 3), root(again, 1), root(two, 1), child(two, 1, ident.Step{Group: 3}), root(two, 2),
	}
	rnd := rand.New(rand.NewSource(1403))
	for range 20 {
		x := amo.New(4)
		for _, i := range rnd.Perm(len(l)) {
			x.Begin(l[i])
			if i%2 == 0 {
				x.End(l[i], res(i))
			}
		}
		if x.Len() != len(l) || !slices.Equal(ids(x.All()), l) {
			t.Fatal(x.All())
		}
		for i, r := range x.All() {
			want := amo.Row{ID: l[i]}
			if i%2 == 0 {
				want = amo.Row{ID: l[i], Ended: true, Res: res(i)}
			}
			if r != want {
				t.Errorf("%v, not %v", r, want)
			}
		}
	}
	if x := amo.New(1); x.Len() != 0 || len(x.All()) != 0 {
		t.Error("an empty table")
	}
}

// P1401, P1403: what All tells is apart from the table and from another answer.
func TestP1403AllApart(t *testing.T) {
	x := ended(t, 4, root(one, 1), root(one, 2))
	for range 2 {
		l := x.All()
		l = l[:cap(l)]
		for i := range l {
			l[i] = amo.Row{}
		}
	}
	if l := x.All(); len(l) != 2 || l[0] != (amo.Row{ID: root(one, 1), Ended: true, Res: res(0)}) {
		t.Error(l)
	}
}

// P1403: a clone is the same, and shares nothing.
func TestP1403Clone(t *testing.T) {
	x := ended(t, 3, root(one, 2), root(two, 1))
	x.Raise(one, 1)
	x.Begin(root(one, 3))
	y := x.Clone()
	if !x.Same(y) || !y.Same(x) || !slices.Equal(x.All(), y.All()) || y.Floor(one) != 1 || y.State(root(one, 5)) != amo.Far {
		t.Fatal("a clone is another one")
	}
	y.End(root(one, 3), res(3))
	y.Begin(root(two, 2))
	y.Raise(two, 1)
	y.Raise(again, 4)
	if x.Len() != 3 || x.State(root(one, 3)) != amo.Running || x.State(root(two, 2)) != amo.Fresh || x.Floor(two) != 0 || x.Floor(again) != 0 || x.State(root(two, 1)) != amo.Ended {
		t.Error("what was done to the clone is seen in the table", x.All())
	}
	z := x.Clone()
	x.Raise(one, 3)
	x.Begin(root(two, 3))
	if z.Floor(one) != 1 || z.State(root(two, 3)) != amo.Fresh || z.State(root(one, 2)) != amo.Ended || x.Same(z) {
		t.Error("what was done to the table is seen in the clone", z.All())
	}
	if w := amo.New(5).Clone(); w.Begin(root(one, 5)) != api.OK || w.Begin(root(one, 6)) != api.ErrBusy {
		t.Error("a clone has another window")
	}
}

// P1403: Same holds the window, the rows and the floors that are not 0.
func TestP1403Same(t *testing.T) {
	built := func(window int, do func(x *amo.Table)) *amo.Table {
		x := ended(t, window, root(one, 1))
		x.Begin(root(one, 2))
		x.Raise(two, 4)
		do(x)
		return x
	}
	nothing := func(x *amo.Table) {}
	same := []*amo.Table{
		built(3, nothing),
		built(3, func(x *amo.Table) { x.Raise(again, 0); x.Raise(ident.Proc{}, 5); x.Raise(two, 3) }),
		built(3, func(x *amo.Table) { x.Begin(root(two, 4)); x.Begin(root(one, 9)); x.End(root(one, 1), res(7)) }),
	}
	other := []*amo.Table{
		amo.New(3),
		built(2, nothing),
		built(4, nothing),
		built(3, func(x *amo.Table) { x.End(root(one, 2), part.Res{}) }),
		built(3, func(x *amo.Table) { x.Begin(root(two, 5)) }),
		built(3, func(x *amo.Table) { x.Begin(child(two, 5, ident.Step{})) }),
		built(3, func(x *amo.Table) { x.Raise(two, 5) }),
		built(3, func(x *amo.Table) { x.Raise(again, 1) }),
		built(3, func(x *amo.Table) { x.Raise(one, 1) }),
	}
	for i, x := range same {
		for j, y := range same {
			if !x.Same(y) {
				t.Errorf("%d and %d are not the same", i, j)
			}
		}
		for j, y := range other {
			if x.Same(y) || y.Same(x) || !y.Same(y) {
				t.Errorf("%d and the other %d are the same", i, j)
			}
		}
	}
	x, y := ended(t, 3, root(one, 1)), begun(t, 3, root(one, 1))
	y.End(root(one, 1), res(1))
	if x.Same(y) || x.Same(nil) || x.Same(&amo.Table{}) {
		t.Error("tables with other results, or none, are the same")
	}
	if !amo.New(0).Same(amo.New(1)) || !amo.New(16).Same(amo.New(99)) || amo.New(1).Same(amo.New(2)) {
		t.Error("empty tables")
	}
	// what was noted, and is no more, leaves nothing but the floor
	x, y = ended(t, 3, root(one, 1)), amo.New(3)
	x.Raise(one, 1)
	y.Raise(one, 1)
	if !x.Same(y) {
		t.Error("what is noted no more counts")
	}
}

// noted counts the roots of a client that are not both running and old.
func noted(x *amo.Table, p ident.Proc) int {
	n := 0
	for _, r := range x.All() {
		if r.ID.Client == p && r.ID.Depth == 0 && (r.Ended || r.ID.Seq > x.Floor(p)) {
			n++
		}
	}
	return n
}

// model is a table as the chapter tells it, without a forgetting: of each call all that was ever done.
type model struct {
	window uint32
	begun  map[ident.ID]bool
	ended  map[ident.ID]bool
	res    map[ident.ID]part.Res
	floor  map[ident.Proc]uint32
}

func (m *model) old(d ident.ID) bool { return d.Depth == 0 && d.Seq <= m.floor[d.Client] }

func (m *model) state(d ident.ID) int {
	switch {
	case m.begun[d] && !m.ended[d]:
		return amo.Running
	case m.old(d):
		return amo.Old
	case m.ended[d]:
		return amo.Ended
	case d.Depth == 0 && d.Seq-m.floor[d.Client] > m.window:
		return amo.Far
	}
	return amo.Fresh
}

// P1402, P1404, P1405: whatever is asked, in any order, of each identifier Begin is OK at most once, and few are noted; all is as a model has it.
func TestP1404AnyOrder(t *testing.T) {
	rnd := rand.New(rand.NewSource(1404))
	want := map[int]api.Errno{amo.Fresh: api.OK, amo.Running: api.ErrThere, amo.Ended: api.ErrThere, amo.Old: api.ErrOld, amo.Far: api.ErrBusy}
	for range 100 {
		window := 1 + rnd.Intn(4)
		x := amo.New(window)
		m := &model{window: uint32(window), begun: map[ident.ID]bool{}, ended: map[ident.ID]bool{}, res: map[ident.ID]part.Res{}, floor: map[ident.Proc]uint32{}}
		fine := map[ident.ID]int{}
		for step := range 300 {
			p := []ident.Proc{one, again, two}[rnd.Intn(3)]
			d := root(p, uint32(1+rnd.Intn(8+step/20)))
			if rnd.Intn(4) == 0 {
				d = child(p, d.Seq, ident.Step{Index: uint8(rnd.Intn(2))})
			}
			state := m.state(d)
			if got := x.State(d); got != state {
				t.Fatalf("State(%v): %d, not %d", d, got, state)
			}
			switch rnd.Intn(8) {
			case 0:
				n := uint32(rnd.Intn(6 + step/20))
				x.Raise(p, n)
				m.floor[p] = max(m.floor[p], n)
			case 1, 2, 3:
				if got := x.End(d, res(step)); got != (state == amo.Running) {
					t.Fatalf("End(%v): %v", d, got)
				}
				if state == amo.Running {
					m.ended[d], m.res[d] = true, res(step)
				}
			default:
				e := x.Begin(d)
				if e != want[state] {
					t.Fatalf("Begin(%v): %d, not %d", d, e, want[state])
				}
				if e == api.OK {
					fine[d]++
					m.begun[d] = true
				}
			}
			if fine[d] > 1 {
				t.Fatalf("%v began twice", d)
			}
			r, ok := x.Res(d)
			if ok != (m.state(d) == amo.Ended) || ok && r != m.res[d] {
				t.Fatalf("Res(%v): %v, %v", d, r, ok)
			}
			if n := noted(x, p); n > window || x.Floor(p) != m.floor[p] {
				t.Fatalf("%d roots are noted, of window %d", n, window)
			}
			count := 0
			for d := range m.begun {
				if s := m.state(d); s == amo.Running || s == amo.Ended {
					count++
				}
			}
			if x.Len() != count || len(x.All()) != count {
				t.Fatalf("%d are noted, not %d", x.Len(), count)
			}
		}
	}
}

// P1405: a client that has many calls, and has had their answers, leaves few behind.
func TestP1405Few(t *testing.T) {
	x := amo.New(api.MaxWindow)
	for seq := uint32(1); seq <= 2000; seq++ {
		if e := x.Begin(root(one, seq)); e != api.OK {
			t.Fatalf("Begin of %d: %d", seq, e)
		}
		if seq > 8 {
			x.End(root(one, seq-8), res(1))
		}
		if seq > 15 {
			x.Raise(one, seq-15)
		}
		if x.Len() > api.MaxWindow {
			t.Fatalf("%d are noted", x.Len())
		}
	}
	if x.Len() != 15 || x.Floor(one) != 1985 {
		t.Error(x.Len(), x.Floor(one))
	}
}

// P1405: beside the running ones that are old, window of them fit.
func TestP1405BesideOldOnes(t *testing.T) {
	x := begun(t, 2, root(one, 1), root(one, 2))
	x.Raise(one, 2)
	if x.Begin(root(one, 3)) != api.OK || x.Begin(root(one, 4)) != api.OK || x.Begin(root(one, 5)) != api.ErrBusy || x.Len() != 4 || noted(x, one) != 2 {
		t.Error(x.All())
	}
	x.End(root(one, 1), res(1))
	x.End(root(one, 2), res(2))
	if !slices.Equal(ids(x.All()), []ident.ID{root(one, 3), root(one, 4)}) {
		t.Error(x.All())
	}
}
