package roll_test

import (
	"math"
	"strings"
	"testing"

	"gemot/api"
	"gemot/entry"
	"gemot/ident"
	"gemot/part"
	"gemot/roll"
	"gemot/store"
	"gemot/view"
)

// proc is a node in its first life.
func proc(node uint8) ident.Proc {
	return ident.Proc{Node: node, Life: 1}
}

// members are the first n members of all views here; their nodes do not rise, so that ranks are no nodes.
func members(n int) []ident.Proc {
	var l []ident.Proc
	for _, node := range []uint8{9, 2, 15, 0, 7, 4, 1, 12}[:n] {
		l = append(l, proc(node))
	}
	return l
}

// of is the view with number 3 of group 1, of n members.
func of(n int) view.View {
	return view.View{Group: 1, N: 3, Members: members(n)}
}

// strangers are none of the views of three members here, though some are of their nodes.
func strangers() []ident.Proc {
	return []ident.Proc{{}, proc(0), proc(3), {Node: 9}, {Node: 9, Life: 2}, {Node: 2, Life: 2}, {Node: 200, Life: 1}}
}

// call is an entry that lists stand in, of a number by which it is told from others.
func call(n int) entry.Entry {
	return entry.Entry{
		Kind: entry.Check, ID: ident.ID{Client: proc(14), Seq: uint32(n)},
		Parts:  []part.Part{{Group: 1, Kind: part.Write, Key: "a", Value: "x"}, {Group: 2, Kind: part.Read, Key: "b"}},
		Writes: []store.Write{{Key: "a", Value: "x", Has: true}},
	}
}

// calls are n entries, from that of a number on.
func calls(from, n int) []entry.Entry {
	var l []entry.Entry
	for i := range n {
		l = append(l, call(from+i))
	}
	return l
}

// roomy are the same entries in lists that have room behind them.
func roomy(l []entry.Entry) []entry.Entry {
	r := make([]entry.Entry, 0, len(l)+20)
	for _, e := range l {
		e.Parts = append(make([]part.Part, 0, 20), e.Parts...)
		e.Writes = append(make([]store.Write, 0, 20), e.Writes...)
		r = append(r, e)
	}
	return r
}

// spoil changes all that entries have, and the room behind them.
func spoil(l []entry.Entry) {
	for _, e := range l {
		clear(e.Parts[:cap(e.Parts)])
		clear(e.Writes[:cap(e.Writes)])
	}
	clear(l[:cap(l)])
}

// show tells entries by their numbers.
func show(l []entry.Entry) string {
	var s []string
	for _, e := range l {
		s = append(s, entry.Show(e))
	}
	return strings.Join(s, ", ")
}

// same fails, unless two lists have the same entries.
func same(t *testing.T, what string, got, want []entry.Entry) {
	t.Helper()
	if !entry.SameAll(got, want) {
		t.Errorf("%s: %s; not %s", what, show(got), show(want))
	}
}

// made is the order of the member of a rank in the view of n members, that begins with calls from 1 on.
func made(t *testing.T, n, rank, base int) *roll.Roll {
	t.Helper()
	r := roll.New(of(n), members(n)[rank], calls(1, base))
	if r == nil {
		t.Fatalf("there is none of the member %d of %d, with %d entries", rank, n, base)
	}
	return r
}

// is fails, unless an order has the calls from 1 on up to a number, of which some are the base, and some are committed.
func is(t *testing.T, what string, r *roll.Roll, n, base, commit int) {
	t.Helper()
	if r.Len() != n || r.Base() != base || r.Commit() != commit {
		t.Errorf("%s: it has %d, base %d, committed %d; not %d, %d, %d", what, r.Len(), r.Base(), r.Commit(), n, base, commit)
	}
	same(t, what+": the order", r.Log(), calls(1, n))
	same(t, what+": the tail", r.Tail(), calls(1+base, n-base))
}

// add lets the head add the calls from a number on up to another one.
func add(t *testing.T, r *roll.Roll, from, to int) {
	t.Helper()
	for n := from; n <= to; n++ {
		if e := r.Add(call(n)); e != api.OK {
			t.Fatalf("the call %d: %d", n, e)
		}
	}
}

// P1201: a nil Roll, and one that New did not make.
func TestP1201None(t *testing.T) {
	var none *roll.Roll
	for name, r := range map[string]*roll.Roll{"nil": none, "unmade": {}} {
		for range 2 { // what was refused must not have made it one
			if e := r.Add(call(1)); e != api.ErrArg {
				t.Errorf("%s: Add is %d", name, e)
			}
			if e := r.Add(entry.Entry{}); e != api.ErrArg {
				t.Errorf("%s: Add of nothing is %d", name, e)
			}
			if r.Take(0, nil, 0) || r.Take(0, calls(1, 2), 1) || r.Take(-1, nil, 5) {
				t.Errorf("%s: it takes", name)
			}
			for _, p := range []ident.Proc{{}, proc(9)} {
				r.Acked(p, 0)
				r.Acked(p, 1)
				if n, l := r.Since(p, 5); n != 0 || len(l) != 0 {
					t.Errorf("%s: Since is %d, %s", name, n, show(l))
				}
			}
			if r.Open() {
				t.Errorf("%s: it is open", name)
			}
			is(t, name, r, 0, 0, 0)
			r.Shut()
		}
	}
}

// P1201: what New takes in is not changed, and shares nothing.
func TestP1201NewApart(t *testing.T) {
	v := of(3)
	v.Members = append(make([]ident.Proc, 0, 20), v.Members...)
	log := roomy(calls(1, 3))
	r := roll.New(v, proc(9), log)
	if !view.Same(v, of(3)) {
		t.Error("the view is changed")
	}
	same(t, "what was handed in", log, calls(1, 3))
	spoil(log)
	clear(v.Members[:cap(v.Members)])
	is(t, "spoilt", r, 3, 3, 3)
	add(t, r, 4, 5) // me is still the head
	is(t, "and behind it", r, 5, 3, 3)
	r.Acked(proc(2), 4)
	is(t, "and the others are still members", r, 5, 3, 4)
}

// P1201: what New was handed keeps the room behind it.
func TestP1201RoomBehind(t *testing.T) {
	log := roomy(calls(1, 2))
	whole := log[:4]
	whole[2], whole[3] = call(30), call(31)
	r := roll.New(of(1), proc(9), log)
	add(t, r, 3, 4)
	same(t, "the room behind", whole[2:], calls(30, 2))
	l := roomy(calls(1, 3))
	m := made(t, 2, 1, 1)
	m.Take(1, l[1:2], 0)
	m.Take(2, calls(3, 3), 0)
	same(t, "what stands behind the piece that was taken", l, calls(1, 3))
}

// P1201: what Add and Take take in is not changed, and shares nothing.
func TestP1201TakenApart(t *testing.T) {
	head, other := made(t, 2, 0, 1), made(t, 2, 1, 1)
	l := roomy(calls(2, 3))
	for _, e := range l {
		if x := head.Add(e); x != api.OK {
			t.Fatal(x)
		}
	}
	if !other.Take(1, l, 0) {
		t.Fatal("it isn't taken")
	}
	same(t, "what was handed in", l, calls(2, 3))
	spoil(l)
	is(t, "the head", head, 4, 1, 1)
	is(t, "the other one", other, 4, 1, 1)
}

// P1201: two entries that share their lists are taken in and told apart from one another.
func TestP1201EntriesApart(t *testing.T) {
	e := call(1)
	r := roll.New(of(2), proc(2), []entry.Entry{e, e})
	r.Take(2, []entry.Entry{e, e}, 4)
	l := r.Log()
	spoil(l[:1:1])
	spoil(l[2:3:3])
	same(t, "the other one of the base", l[1:2], calls(1, 1))
	same(t, "the other one of the tail", l[3:], calls(1, 1))
	same(t, "what was handed in", []entry.Entry{e}, calls(1, 1))
}

// P1201: what is told shares nothing with the order, nor with what is told another time.
func TestP1201ToldApart(t *testing.T) {
	looks := map[string]func(*roll.Roll) []entry.Entry{
		"Log":  (*roll.Roll).Log,
		"Tail": (*roll.Roll).Tail,
		"Since": func(r *roll.Roll) []entry.Entry {
			_, l := r.Since(proc(2), 2)
			return l
		},
	}
	for name, look := range looks {
		r := made(t, 3, 0, 1)
		add(t, r, 2, 5)
		first, second, want := look(r), look(r), look(r)
		first[0].Parts = append(first[0].Parts, first[0].Parts...)
		first = append(first, call(77)) // where there is room behind it, it is nobody's
		spoil(first)
		same(t, name+", told another time", second, want)
		is(t, name, r, 5, 1, 1)
		add(t, r, 6, 9)
		same(t, name+", told ahead of more", second, want)
	}
}

// P1201: two orders have nothing to do with each other.
func TestP1201TwoOrders(t *testing.T) {
	a, b := made(t, 1, 0, 2), made(t, 1, 0, 2)
	add(t, a, 3, 4)
	a.Shut()
	is(t, "the one", a, 4, 2, 4)
	is(t, "the other one", b, 2, 2, 2)
	if a.Open() || !b.Open() {
		t.Error("the one is shut, the other one is not")
	}
}

// P1202: of which views, members and logs there is an order.
func TestP1202New(t *testing.T) {
	wrong := map[string]view.View{
		"no view":         {},
		"no such group":   {Group: api.MaxGroups, N: 1, Members: members(3)},
		"no number":       {Group: 1, Members: members(3)},
		"nobody":          {Group: 1, N: 1, Members: []ident.Proc{}},
		"a node twice":    {Group: 1, N: 1, Members: []ident.Proc{proc(9), {Node: 9, Life: 2}}},
		"a wrong member":  {Group: 1, N: 1, Members: []ident.Proc{proc(9), {Node: 3}}},
		"too many":        {Group: 1, N: 1, Members: append(members(8), proc(3))},
		"a wrong process": {Group: 1, N: 1, Members: []ident.Proc{{}}},
	}
	for name, v := range wrong {
		if roll.New(v, proc(9), nil) != nil || roll.New(v, ident.Proc{}, nil) != nil {
			t.Errorf("%s: there is one", name)
		}
	}
	for _, p := range strangers() {
		if roll.New(of(3), p, nil) != nil {
			t.Errorf("there is one of %v, who is no member", p)
		}
	}
	for _, n := range []int{api.MaxLog + 1, api.MaxLog + 2, 1000} {
		if roll.New(of(3), proc(9), make([]entry.Entry, n)) != nil {
			t.Errorf("there is one with %d entries", n)
		}
	}
	for n := 1; n <= api.MaxView; n++ {
		for rank := range n {
			for _, base := range []int{0, 1, 7, api.MaxLog} {
				r := made(t, n, rank, base)
				is(t, "at first", r, base, base, base)
				if !r.Open() {
					t.Error("it is not open at first")
				}
			}
		}
	}
}

// P1202: no list and an empty one are the same; what stands in a log is not asked.
func TestP1202AnyLog(t *testing.T) {
	for _, l := range [][]entry.Entry{nil, {}} {
		r := roll.New(of(3), proc(2), l)
		is(t, "without entries", r, 0, 0, 0)
	}
	log := []entry.Entry{{}, {Kind: 9}, call(1), call(1)}
	r := roll.New(of(3), proc(2), log)
	same(t, "any entries", r.Log(), log)
}

// P1202: the head alone adds.
func TestP1202AddAtTheHead(t *testing.T) {
	for n := 1; n <= api.MaxView; n++ {
		for rank := range n {
			r := made(t, n, rank, 2)
			e := r.Add(call(3))
			if rank > 0 && e != api.ErrArg || rank == 0 && e != api.OK {
				t.Errorf("the member %d of %d: %d", rank, n, e)
			}
			switch {
			case rank > 0:
				is(t, "refused", r, 2, 2, 2)
			case n > 1:
				is(t, "added", r, 3, 2, 2)
			default:
				is(t, "added by all members", r, 3, 2, 3)
			}
		}
	}
}

// P1202: what may not be in the order of the view's group is not added.
func TestP1202AddWrong(t *testing.T) {
	child, _ := ident.Child(call(1).ID, 2, 0)
	other := call(1)
	other.Parts[0].Group = 2
	loose := call(1)
	loose.Victim = proc(1)
	wrong := []entry.Entry{{}, {Kind: 9}, {Kind: entry.Kill}, other, loose, {Kind: entry.Back, ID: child}, {Kind: entry.Call, ID: call(1).ID}}
	for _, n := range []int{1, 3} {
		r := made(t, n, 0, 0)
		for i, e := range wrong {
			if x := r.Add(e); x != api.ErrArg {
				t.Errorf("the wrong entry %d: %d", i, x)
			}
		}
		is(t, "all refused", r, 0, 0, 0)
	}
	v := of(1)
	v.Group = 2
	r := roll.New(v, proc(9), nil)
	for _, e := range []entry.Entry{other, {Kind: entry.Back, ID: child}, {Kind: entry.Kill, Victim: proc(1)}} {
		if x := r.Add(e); x != api.OK {
			t.Errorf("%s: %d in its own group", entry.Show(e), x)
		}
	}
	if x := r.Add(call(1)); x != api.ErrArg || r.Len() != 3 {
		t.Errorf("%d of the entry of another group, %d are in", x, r.Len())
	}
}

// P1202: entries that stand there already are added like any other one.
func TestP1202AddTwice(t *testing.T) {
	r := made(t, 1, 0, 0)
	for range 3 {
		if e := r.Add(call(1)); e != api.OK {
			t.Error(e)
		}
	}
	same(t, "the order", r.Log(), []entry.Entry{call(1), call(1), call(1)})
}

// P1202: an order takes MaxLog entries; which error is told, where several hold.
func TestP1202AddErrors(t *testing.T) {
	for _, base := range []int{0, api.MaxLog - 1, api.MaxLog} {
		r := made(t, 1, 0, base)
		add(t, r, base+1, api.MaxLog)
		if e := r.Add(call(7)); e != api.ErrFull {
			t.Errorf("full: %d", e)
		}
		if e := r.Add(entry.Entry{}); e != api.ErrArg {
			t.Errorf("full, and a wrong entry: %d", e)
		}
		is(t, "full", r, api.MaxLog, base, api.MaxLog)
		r.Shut()
		if e := r.Add(call(7)); e != api.ErrBlock {
			t.Errorf("full and shut: %d", e)
		}
		if e := r.Add(entry.Entry{}); e != api.ErrArg {
			t.Errorf("full and shut, and a wrong entry: %d", e)
		}
		is(t, "full and shut", r, api.MaxLog, base, api.MaxLog)
	}
	r := made(t, 2, 0, 3)
	r.Shut()
	if e := r.Add(call(4)); e != api.ErrBlock {
		t.Errorf("shut: %d", e)
	}
	is(t, "shut", r, 3, 3, 3)
	other := made(t, 2, 1, api.MaxLog)
	other.Shut()
	if e := other.Add(call(7)); e != api.ErrArg {
		t.Errorf("at another member than the head, full and shut: %d", e)
	}
}

// P1205: what is looked at, at a head and elsewhere, with and without a base.
func TestP1205Looks(t *testing.T) {
	head, other := made(t, 3, 0, 2), made(t, 3, 2, 0)
	add(t, head, 3, 6)
	other.Take(0, calls(1, 4), 3)
	is(t, "the head", head, 6, 2, 2)
	is(t, "the other one", other, 4, 0, 3)
	for _, r := range []*roll.Roll{head, other} {
		if !r.Open() {
			t.Error("it is shut by nobody")
		}
		r.Shut()
		if r.Open() {
			t.Error("it is shut")
		}
		r.Shut()
		if r.Open() {
			t.Error("it is shut, and twice")
		}
	}
	is(t, "the head, shut", head, 6, 2, 2)
	is(t, "the other one, shut", other, 4, 0, 3)
}

// P1205: all numbers and lists are taken, and nothing panics.
func TestP1205AnyArguments(t *testing.T) {
	numbers := []int{math.MinInt, -1 << 40, -401, -1, 0, 1, 2, 3, 5, api.MaxLog, api.MaxLog + 1, 1 << 40, math.MaxInt}
	for rank := range 3 {
		r := made(t, 3, rank, 2)
		for _, a := range numbers {
			for _, b := range numbers {
				r.Take(a, nil, b)
				r.Take(a, make([]entry.Entry, 1000), b)
			}
			for _, p := range append(strangers(), members(3)...) {
				r.Acked(p, a)
				r.Since(p, a)
			}
		}
		is(t, "behind them", r, 2, 2, 2)
	}
}
