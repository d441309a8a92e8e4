package pact_test

import (
	"math"
	"math/rand"
	"slices"
	"testing"

	"gemot/api"
	"gemot/entry"
	"gemot/ident"
	"gemot/pact"
	"gemot/view"
)

// start is a proposer of n members, with the ballot 300.
func start(t *testing.T, n int) *pact.Proposer {
	t.Helper()
	p := pact.Start(of(n), 300)
	if p == nil {
		t.Fatalf("there is none of %d members", n)
	}
	return p
}

// bare counts a member's promise, that has neither a tail nor a value.
func bare(p *pact.Proposer, from ident.Proc) {
	p.Promise(from, nil, 0, pact.Val{}, false)
}

// asked is a proposer to whom a majority of n members, from the first one on, has promised.
func asked(t *testing.T, n int) *pact.Proposer {
	t.Helper()
	p := start(t, n)
	for _, m := range members(n)[:n/2+1] {
		bare(p, m)
	}
	return p
}

// proposing is one that has proposed a wish.
func proposing(t *testing.T, n int, wish ...uint8) *pact.Proposer {
	t.Helper()
	p := asked(t, n)
	if _, ok := p.Propose(procs(wish...)); !ok {
		t.Fatalf("of %d members it isn't Ready", n)
	}
	return p
}

// is fails, unless a proposer is in a phase with what it proposes and who is missing, and with the ballot 300.
func is(t *testing.T, p *pact.Proposer, phase int, v pact.Val, missing []ident.Proc) {
	t.Helper()
	if p.Phase() != phase || p.Ballot() != 300 {
		t.Errorf("phase %d, ballot %d, not phase %d", p.Phase(), p.Ballot(), phase)
	}
	same(t, "what is proposed", p.Value(), v)
	if got := p.Missing(); !slices.Equal(got, missing) {
		t.Errorf("missing are %v, not %v", got, missing)
	}
}

// P1101: a nil Proposer, and one that Start did not make.
func TestP1101NoProposer(t *testing.T) {
	var none *pact.Proposer
	for name, p := range map[string]*pact.Proposer{"nil": none, "unmade": {}} {
		for _, from := range []ident.Proc{{}, proc(0), proc(9), {Node: 255, Life: 9}} {
			p.Promise(from, tail(0, 3), 7, val(1), true)
			bare(p, from)
			if p.Ready() || p.Accepted(from) || p.Phase() != 0 || p.Ballot() != 0 || len(p.Missing()) != 0 {
				t.Errorf("%s: it does something", name)
			}
			v, ok := p.Propose(procs(1, 2))
			if ok {
				t.Errorf("%s: it proposes", name)
			}
			same(t, name, v, pact.Val{})
			same(t, name, p.Value(), pact.Val{})
		}
	}
}

// P1101: what is taken in and told shares nothing with the proposer, and is not changed.
func TestP1101ProposedApart(t *testing.T) {
	v := of(3)
	v.Members = append(make([]ident.Proc, 0, 9), v.Members...)
	p := pact.Start(v, 300)
	if !view.Same(v, of(3)) {
		t.Errorf("%v has changed", v)
	}
	clear(v.Members[:cap(v.Members)])
	is(t, p, pact.Asking, pact.Val{}, members(3))
	missing := p.Missing()
	clear(missing[:cap(missing)])
	is(t, p, pact.Asking, pact.Val{}, members(3))

	first := roomy(pact.Val{Tail: tail(10, 3)})
	p.Promise(members(3)[2], first.Tail, 0, pact.Val{}, false)
	same(t, "the tail", first, pact.Val{Tail: tail(10, 3)})
	spoil(first)
	bare(p, members(3)[1])
	wish := procs(5, 6, 7)
	got, _ := p.Propose(wish[:2])
	if !slices.Equal(wish, procs(5, 6, 7)) {
		t.Errorf("%v has changed", wish)
	}
	clear(wish)
	want := pact.Val{Members: procs(5, 6), Tail: tail(10, 3)}
	same(t, "the wish and the tail", got, want)
	next := p.Value()
	got.Tail[0].Parts = append(got.Tail[0].Parts, got.Tail[0].Parts...)
	_ = append(got.Members, proc(1))
	spoil(got)
	same(t, "what is told", next, want)
	spoil(next)
	is(t, p, pact.Proposing, want, members(3))
}

// P1101: a value that somebody holds is taken in and told apart.
func TestP1101FoundApart(t *testing.T) {
	p := start(t, 1)
	v := roomy(val(4))
	p.Promise(members(1)[0], v.Tail, 7, v, true)
	same(t, "what was handed in", v, val(4))
	spoil(v)
	got, _ := p.Propose(nil)
	same(t, "what was held", got, val(4))
	spoil(got)
	is(t, p, pact.Proposing, val(4), members(1))
}

// P1101: two proposers have nothing to do with each other, even of one view.
func TestP1101TwoProposers(t *testing.T) {
	v := of(3)
	p, q := pact.Start(v, 300), pact.Start(v, 300)
	for _, m := range members(3) {
		bare(p, m)
	}
	p.Propose(procs(1))
	p.Accepted(proc(9))
	is(t, q, pact.Asking, pact.Val{}, members(3))
	if q.Ready() {
		t.Error("nobody has promised to the other one")
	}
}

// P1103: of which views and ballots there is one.
func TestP1103Start(t *testing.T) {
	wrong := []view.View{
		{}, {Group: 1, N: 3}, {Group: 1, N: 0, Members: members(3)}, {Group: api.MaxGroups, N: 3, Members: members(3)},
		{Group: 1, N: 3, Members: procs(1, 2, 1)}, {Group: 1, N: 3, Members: procs(1, 16)}, {Group: 1, N: 3, Members: []ident.Proc{{Node: 1}}},
		{Group: 1, N: 3, Members: procs(0, 1, 2, 3, 4, 5, 6, 7, 8)},
		{Group: 1, N: 3, Members: []ident.Proc{{Node: 1, Life: 1}, {Node: 1, Life: 2}}},
	}
	for _, v := range wrong {
		for _, b := range []uint64{0, 1, 300, math.MaxUint64} {
			if pact.Start(v, b) != nil {
				t.Errorf("there is none of %v and %d", v, b)
			}
		}
	}
	for n := 1; n <= api.MaxView; n++ {
		if pact.Start(of(n), 0) != nil {
			t.Errorf("there is none of %d members and the ballot 0", n)
		}
		for _, b := range []uint64{1, 255, 256, 300, 1 << 40, math.MaxUint64} {
			p := pact.Start(of(n), b)
			if p == nil || p.Ballot() != b || p.Phase() != pact.Asking || p.Ready() || !slices.Equal(p.Missing(), members(n)) {
				t.Fatalf("of %d members and %d: %v", n, b, p)
			}
			same(t, "at first", p.Value(), pact.Val{})
		}
	}
}

// P1103: whoever is no member, and one who has counted, do not count; each other one does, whatever he promises with.
func TestP1103Counting(t *testing.T) {
	p := start(t, 5)
	l := members(5)
	others := []ident.Proc{{}, proc(3), {Node: l[0].Node}, {Node: l[0].Node, Life: 2}, {Node: 255, Life: 1}}
	for _, m := range others {
		p.Promise(m, tail(0, 9), 99, val(9), true)
	}
	is(t, p, pact.Asking, pact.Val{}, l)
	bare(p, l[3])
	is(t, p, pact.Asking, pact.Val{}, []ident.Proc{l[0], l[1], l[2], l[4]})
	p.Promise(l[3], tail(0, 9), 99, val(9), true)
	p.Promise(l[1], tail(0, 1), 0, pact.Val{}, false)
	for range 3 {
		bare(p, l[1])
		is(t, p, pact.Asking, pact.Val{}, []ident.Proc{l[0], l[2], l[4]})
		if p.Ready() {
			t.Error("two of five are no majority")
		}
	}
	p.Promise(l[4], nil, 0, pact.Val{}, false)
	if !p.Ready() {
		t.Error("three of five are a majority")
	}
	v, ok := p.Propose(procs(6))
	if !ok {
		t.Error("it is Ready")
	}
	same(t, "others and doubled ones have told nothing", v, pact.Val{Members: procs(6), Tail: tail(0, 1)})
	is(t, p, pact.Proposing, v, l)
	for _, m := range others {
		if p.Accepted(m) {
			t.Errorf("%v is no member", m)
		}
	}
	is(t, p, pact.Proposing, v, l)
	for range 3 {
		if p.Accepted(l[0]) || p.Accepted(l[2]) {
			t.Error("two of five are no majority")
		}
		is(t, p, pact.Proposing, v, []ident.Proc{l[1], l[3], l[4]})
	}
	if !p.Accepted(l[1]) {
		t.Error("three of five are a majority")
	}
	is(t, p, pact.Decided, v, nil)
}

// P1103: just a majority makes it Ready, and Decided, of any number of members.
func TestP1103Majorities(t *testing.T) {
	for n := 1; n <= api.MaxView; n++ {
		p := start(t, n)
		l := members(n)
		slices.Reverse(l)
		for i, m := range l {
			if got, want := p.Ready(), 2*i > n; got != want {
				t.Errorf("%d of %d: Ready is %v", i, n, got)
			}
			bare(p, m)
		}
		if !p.Ready() || len(p.Missing()) != 0 {
			t.Errorf("of %d all have promised", n)
		}
		p.Propose(nil)
		for i, m := range l {
			if got, want := p.Accepted(m), 2*(i+1) > n; got != want || (p.Phase() == pact.Decided) != want {
				t.Errorf("%d of %d: Decided is %v", i+1, n, got)
			}
		}
	}
}

// P1103: what isn't Ready proposes nothing, and nothing changes.
func TestP1103ProposeUnready(t *testing.T) {
	refused := func(p *pact.Proposer) {
		t.Helper()
		if p.Ready() {
			t.Error("it isn't Ready")
		}
		v, ok := p.Propose(procs(7))
		if ok {
			t.Error("it proposes")
		}
		same(t, "beside false", v, pact.Val{})
	}
	p := start(t, 3)
	refused(p)
	is(t, p, pact.Asking, pact.Val{}, members(3))
	p.Promise(members(3)[0], tail(5, 2), 0, pact.Val{}, false)
	refused(p)
	is(t, p, pact.Asking, pact.Val{}, members(3)[1:])
	bare(p, members(3)[1])
	want := pact.Val{Members: procs(8), Tail: tail(5, 2)}
	p.Propose(procs(8))
	refused(p)
	is(t, p, pact.Proposing, want, members(3))
	p.Accepted(members(3)[2])
	refused(p)
	is(t, p, pact.Proposing, want, members(3)[:2])
	p.Accepted(members(3)[0])
	refused(p)
	is(t, p, pact.Decided, want, nil)
}

// P1103: in Asking no acceptance counts, in the other phases no promise, and in Decided nothing.
func TestP1103OtherPhases(t *testing.T) {
	p := start(t, 3)
	for _, m := range members(3) {
		if p.Accepted(m) {
			t.Error("it has not proposed")
		}
	}
	is(t, p, pact.Asking, pact.Val{}, members(3))
	p = proposing(t, 3, 4)
	want := pact.Val{Members: procs(4)}
	for _, m := range members(3) {
		p.Promise(m, tail(0, 5), 200, val(2), true)
		if p.Ready() {
			t.Error("it has proposed")
		}
	}
	is(t, p, pact.Proposing, want, members(3))
	p.Accepted(members(3)[0])
	p.Accepted(members(3)[1])
	for _, m := range append(members(3), ident.Proc{}, proc(3)) {
		p.Promise(m, tail(0, 5), 200, val(2), true)
		if !p.Accepted(m) || p.Ready() {
			t.Error("it is Decided")
		}
		is(t, p, pact.Decided, want, nil)
	}
}

// promise is what a member promises with.
type promise struct {
	from int
	tail []entry.Entry
	acc  uint64
	val  pact.Val
	has  bool
}

// none is a member's promise with a tail of n entries, and no value.
func none(from, n int) promise {
	return promise{from: from, tail: tail(10*from, n)}
}

// held is a member's promise with a value; its tail is longer than all others, so that it would be seen.
func held(from int, acc uint64, v int) promise {
	return promise{from: from, tail: tail(0, 50), acc: acc, val: val(v), has: true}
}

// P1103: which value is proposed.
func TestP1103Value(t *testing.T) {
	wish := procs(5, 6)
	wished := func(from, n int) pact.Val {
		return pact.Val{Members: wish, Tail: tail(10*from, n)}
	}
	ignored := promise{from: 1, tail: tail(10, 1), acc: 99, val: val(3)} // it says that it holds none
	cases := []struct {
		name     string
		promises []promise
		want     pact.Val
	}{
		{"no tails", []promise{none(0, 0), none(1, 0), none(2, 0)}, wished(0, 0)},
		{"one tail", []promise{none(0, 0), none(1, 2), none(2, 0)}, wished(1, 2)},
		{"the longest is the first", []promise{none(2, 4), none(1, 3), none(0, 2)}, wished(2, 4)},
		{"the longest is the last", []promise{none(2, 1), none(1, 3), none(4, 4)}, wished(4, 4)},
		{"the longest comes when it is Ready", []promise{none(0, 1), none(1, 1), none(2, 1), none(3, 1), none(4, 2)}, wished(4, 2)},
		{"the first of one length", []promise{none(3, 1), none(2, 2), none(1, 2), none(0, 2)}, wished(2, 2)},
		{"a value", []promise{none(0, 9), held(1, 7, 3), none(2, 9)}, val(3)},
		{"a value of the ballot 1", []promise{none(0, 9), held(1, 1, 3), none(2, 9)}, val(3)},
		{"a value of no ballot", []promise{none(0, 9), held(1, 0, 3), none(2, 9)}, val(3)},
		{"a value comes when it is Ready", []promise{none(0, 9), none(1, 9), none(2, 9), none(3, 9), held(4, 7, 3)}, val(3)},
		{"the greatest is the first", []promise{held(0, 9, 3), held(1, 8, 4), held(2, 7, 5)}, val(3)},
		{"the greatest is the last", []promise{held(0, 7, 3), held(1, 8, 4), held(2, 9, 5)}, val(5)},
		{"the greatest is between", []promise{held(0, 7, 3), held(1, 9, 4), none(4, 60), held(2, 8, 5)}, val(4)},
		{"the first of one ballot", []promise{none(0, 1), held(2, 8, 3), held(1, 8, 4), held(4, 8, 5)}, val(3)},
		{"ballots above its own", []promise{none(0, 1), held(2, 301, 3), held(1, math.MaxUint64, 4)}, val(4)},
		{"what has no value holds none", []promise{none(0, 0), ignored, none(2, 0)}, wished(1, 1)},
		{"a value without members", []promise{none(0, 9), {from: 1, acc: 7, has: true}, none(2, 9)}, pact.Val{}},
		{"a value without entries", []promise{none(0, 9), {from: 1, acc: 7, val: pact.Val{Members: procs(1)}, has: true}, none(2, 9)}, pact.Val{Members: procs(1)}},
	}
	for _, c := range cases {
		p := start(t, 5)
		for _, x := range c.promises {
			p.Promise(members(5)[x.from], x.tail, x.acc, x.val, x.has)
			same(t, c.name+": in Asking", p.Value(), pact.Val{})
		}
		got, ok := p.Propose(wish)
		if !ok {
			t.Errorf("%s: it isn't Ready", c.name)
		}
		same(t, c.name, got, c.want)
		is(t, p, pact.Proposing, c.want, members(5))
	}
}

// P1103: any wish may be proposed.
func TestP1103AnyWish(t *testing.T) {
	for _, wish := range [][]ident.Proc{nil, {}, procs(1, 1), {{}}, make([]ident.Proc, 100)} {
		p := asked(t, 2)
		got, ok := p.Propose(wish)
		if !ok {
			t.Errorf("%v isn't proposed", wish)
		}
		same(t, "the wish", got, pact.Val{Members: wish})
		is(t, p, pact.Proposing, pact.Val{Members: wish}, members(2))
	}
}

// The chapter's example: of three members two promise with no value held, two accept.
func TestP1103Example(t *testing.T) {
	p := start(t, 3)
	l := members(3)
	acceptors := []*pact.Acceptor{pact.NewAcceptor(), pact.NewAcceptor()}
	for i, a := range acceptors {
		if !a.Prepare(p.Ballot()) {
			t.Error("it has promised no other ballot")
		}
		b, v, has := a.Held()
		p.Promise(l[i], nil, b, v, has)
	}
	v, ok := p.Propose(procs(2, 9))
	if !ok {
		t.Error("it is Ready")
	}
	for i, a := range acceptors {
		if !a.Accept(p.Ballot(), v) || p.Accepted(l[i]) != (i == 1) {
			t.Error("it accepts")
		}
	}
	is(t, p, pact.Decided, pact.Val{Members: procs(2, 9)}, nil)
}

// model is a proposer as the chapter's words have it, done as plainly as may be: it keeps all that counted.
type model struct {
	members  []ident.Proc
	phase    int
	promises []promise
	promised []ident.Proc
	accepted []ident.Proc
	val      pact.Val
}

func (m *model) ready() bool {
	return m.phase == pact.Asking && 2*len(m.promised) > len(m.members)
}

func (m *model) promise(from ident.Proc, x promise) {
	if m.phase == pact.Asking && slices.Contains(m.members, from) && !slices.Contains(m.promised, from) {
		m.promised, m.promises = append(m.promised, from), append(m.promises, x)
	}
}

func (m *model) propose(wish []ident.Proc) (pact.Val, bool) {
	if !m.ready() {
		return pact.Val{}, false
	}
	m.phase = pact.Proposing
	m.val = pact.Val{Members: wish}
	best := -1
	for i, x := range m.promises {
		if x.has && (best < 0 || x.acc > m.promises[best].acc) {
			best = i
		}
		if len(x.tail) > len(m.val.Tail) {
			m.val.Tail = x.tail
		}
	}
	if best >= 0 {
		m.val = m.promises[best].val
	}
	return m.val, true
}

func (m *model) accept(from ident.Proc) bool {
	if m.phase == pact.Proposing && slices.Contains(m.members, from) && !slices.Contains(m.accepted, from) {
		m.accepted = append(m.accepted, from)
	}
	if m.phase == pact.Proposing && 2*len(m.accepted) > len(m.members) {
		m.phase = pact.Decided
	}
	return m.phase == pact.Decided
}

func (m *model) missing() []ident.Proc {
	gone := [][]ident.Proc{m.promised, m.accepted, m.members}[m.phase]
	return slices.DeleteFunc(slices.Clone(m.members), func(p ident.Proc) bool { return slices.Contains(gone, p) })
}

// P1103: any calls, one behind the other, are answered as by the model.
func TestP1103AsTheModel(t *testing.T) {
	rnd := rand.New(rand.NewSource(1103))
	for round := range 600 {
		n := 1 + rnd.Intn(api.MaxView)
		p, m := start(t, n), &model{members: members(n)}
		for range 40 {
			from := proc(uint8(rnd.Intn(api.MaxNodes)))
			if rnd.Intn(3) > 0 {
				from = m.members[rnd.Intn(n)]
			}
			switch rnd.Intn(8) {
			case 0:
				wish := procs(uint8(rnd.Intn(16)))
				got, ok := p.Propose(wish)
				want, may := m.propose(wish)
				if ok != may {
					t.Fatalf("round %d: Propose is %v", round, ok)
				}
				same(t, "Propose", got, want)
			case 1, 2, 3:
				if got, want := p.Accepted(from), m.accept(from); got != want {
					t.Fatalf("round %d: Accepted is %v", round, got)
				}
			default:
				x := promise{tail: tail(rnd.Intn(100), rnd.Intn(4)), acc: uint64(rnd.Intn(5)), val: val(rnd.Intn(50)), has: rnd.Intn(4) == 0}
				p.Promise(from, x.tail, x.acc, x.val, x.has)
				m.promise(from, x)
			}
			if p.Ready() != m.ready() {
				t.Fatalf("round %d: Ready is %v", round, p.Ready())
			}
			is(t, p, m.phase, m.val, m.missing())
		}
	}
}
