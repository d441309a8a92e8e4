package seat_test

import (
	"math/rand"
	"slices"
	"testing"

	"gemot/entry"
	"gemot/ident"
	"gemot/part"
	"gemot/seat"
	"gemot/store"
	"gemot/view"
	"gemot/wire"
)

// roomyProcs are the same processes in a list that has room behind it.
func roomyProcs(l []ident.Proc) []ident.Proc {
	return append(make([]ident.Proc, 0, len(l)+9), l...)
}

// roomyEntries are the same entries in lists that have room behind them.
func roomyEntries(l []entry.Entry) []entry.Entry {
	r := make([]entry.Entry, 0, len(l)+9)
	for _, e := range l {
		e.Parts = append(make([]part.Part, 0, 9), e.Parts...)
		e.Writes = append(make([]store.Write, 0, 9), e.Writes...)
		r = append(r, e)
	}
	return r
}

// roomy is the same message in lists that have room behind them.
func roomy(m wire.Msg) wire.Msg {
	m.View.Members = roomyProcs(m.View.Members)
	m.Members = roomyProcs(m.Members)
	m.Entries, m.Tail = roomyEntries(m.Entries), roomyEntries(m.Tail)
	return m
}

// spoilEntries changes all that entries have, and the room behind them.
func spoilEntries(l []entry.Entry) {
	for _, e := range l {
		clear(e.Parts[:cap(e.Parts)])
		clear(e.Writes[:cap(e.Writes)])
	}
	clear(l[:cap(l)])
}

func spoilProcs(l []ident.Proc) {
	clear(l[:cap(l)])
}

// spoil changes all that a message has, and the room behind it.
func spoil(m wire.Msg) {
	spoilProcs(m.View.Members)
	spoilProcs(m.Members)
	spoilEntries(m.Entries)
	spoilEntries(m.Tail)
}

// twins are two seats to which the same is done: whatever one of them is handed, and tells, is spoilt.
type twins struct {
	t            *testing.T
	plain, spilt *seat.Seat
}

// both makes twins.
func both(t *testing.T, me ident.Proc, founders []ident.Proc) *twins {
	l := roomyProcs(founders)
	x := &twins{t: t, plain: seat.New(1, me, founders), spilt: seat.New(1, me, l)}
	if !slices.Equal(l, founders) {
		t.Fatal("the founders are changed")
	}
	spoilProcs(l)
	return x
}

// same holds what the twins tell against each other; what one of them told is spoilt message by message.
func (x *twins) same(plain, spilt []seat.Out) {
	x.t.Helper()
	if len(plain) != len(spilt) {
		x.t.Fatalf("they tell %v and %v", plain, spilt)
	}
	for i, o := range spilt {
		if o.To != plain[i].To || !wire.Same(o.Msg, plain[i].Msg) || !o.Msg.Right() {
			x.t.Fatalf("they tell %s and %s", showMsg(plain[i].Msg), showMsg(o.Msg))
		}
		spoil(o.Msg)
	}
}

func (x *twins) tick(now int) {
	x.t.Helper()
	x.same(x.plain.Tick(now), x.spilt.Tick(now))
}

func (x *twins) hear(now int, from ident.Proc, m wire.Msg) {
	x.t.Helper()
	r := roomy(m)
	plain, spilt := x.plain.Hear(now, from, m), x.spilt.Hear(now, from, r)
	if !wire.Same(r, m) {
		x.t.Fatalf("%s is changed", showMsg(m))
	}
	spoil(r)
	x.same(plain, spilt)
}

func (x *twins) submit(n int) {
	x.t.Helper()
	l := roomyEntries(calls(n, 1))
	if x.plain.Submit(call(n)) != x.spilt.Submit(l[0]) || !entry.Same(l[0], call(n)) {
		x.t.Fatal("Submit")
	}
	spoilEntries(l)
}

func (x *twins) meet(l []ident.Proc) {
	x.t.Helper()
	r := roomyProcs(l)
	x.plain.Meet(l)
	x.spilt.Meet(r)
	if !slices.Equal(l, r) {
		x.t.Fatal("whom it meets is changed")
	}
	spoilProcs(r)
}

// look holds what is seen of the twins against each other, and spoils it.
func (x *twins) look() {
	x.t.Helper()
	v, w := x.plain.View(), x.spilt.View()
	if !view.Same(v, w) || !slices.EqualFunc(x.plain.Been(), x.spilt.Been(), view.Same) {
		x.t.Fatalf("they are in %s and %s", view.Show(v), view.Show(w))
	}
	spoilProcs(w.Members)
	l := x.spilt.Been()
	for i, v := range x.plain.Been() {
		if !view.Same(l[i], v) {
			x.t.Fatal("two views share their members")
		}
		spoilProcs(l[i].Members)
		l[i].N = 77
	}
	log := x.spilt.Log()
	if !entry.SameAll(x.plain.Log(), log) || x.plain.Commit() != x.spilt.Commit() || x.plain.Leads() != x.spilt.Leads() {
		x.t.Fatalf("their orders are %s and %s", showEntries(x.plain.Log()), showEntries(log))
	}
	spoilEntries(log)
}

// P1301: what is taken in and told shares nothing, and is not changed: each kind of message, and each call.
func TestP1301Apart(t *testing.T) {
	x := both(t, proc(9), members(3))
	x.look()
	x.meet(procs(2, 15))
	for n := range 20 {
		x.submit(1 + n)
	}
	x.tick(1)
	x.hear(1, proc(2), acked(1, 5))
	x.hear(1, proc(15), balloted(wire.Prepare, 1, b(1, 15)))
	x.hear(1, proc(2), propose(1, b(2, 2), procs(2, 9), calls(1, 7)))
	x.hear(1, proc(15), balloted(wire.Prepare, 1, b(3, 15)))
	x.look()
	x.tick(13)
	x.hear(13, proc(2), holding(1, b(4, 9), calls(1, 8), b(3, 15), procs(15, 9, 2), calls(1, 6)))
	x.tick(14)
	x.hear(14, proc(15), balloted(wire.Accept, 1, b(4, 9)))
	x.look()
	x.hear(14, proc(15), appending(2, 6, 7, calls(7, 3)))
	x.hear(14, proc(15), appending(1, 0, 0, nil))
	x.hear(14, proc(2), joining(proc(2)))
	x.look()
	x.hear(15, proc(15), install(of(4, 9, 2), calls(1, 8)))
	x.look()
	x.tick(15)
	x.hear(16, proc(2), install(of(5, 2), calls(1, 8)))
	x.look()
	x.plain.Join()
	x.spilt.Join()
	x.tick(17)
}

// P1301: a proposer's value, and the tail that it heard, are its own.
func TestP1301ValueApart(t *testing.T) {
	x := both(t, proc(9), members(5))
	x.submit(1)
	x.plain.Suspect(proc(15))
	x.spilt.Suspect(proc(15))
	x.tick(2)
	x.hear(2, proc(2), promise(1, b(1, 9), calls(1, 4)))
	x.hear(2, proc(0), promise(1, b(1, 9), calls(1, 2)))
	x.tick(3)
	x.hear(3, proc(2), balloted(wire.Accept, 1, b(1, 9)))
	x.tick(3)
	x.hear(3, proc(0), balloted(wire.Accept, 1, b(1, 9)))
	x.look()
	has(t, "decided", x.spilt, "[1-4]", 4)
	x.tick(4)
}

// anyMsg is a message that a seat of three may hear, most often about its own view, which has the number n.
func anyMsg(rnd *rand.Rand, n uint32) wire.Msg {
	switch rnd.Intn(5) {
	case 0:
		n++
	case 1:
		n--
	}
	l := all(min(max(n, 1), 1000))
	m := l[rnd.Intn(len(l))]
	tail := calls(1, rnd.Intn(5))
	switch m.Kind {
	case wire.Append:
		m.From, m.Commit, m.Entries = uint32(rnd.Intn(4)), uint32(rnd.Intn(6)), tail
	case wire.Acked:
		m.From = uint32(rnd.Intn(6))
	case wire.Promise:
		m.Entries = tail
		if rnd.Intn(2) == 0 {
			m = holding(m.N, m.Ballot, tail, b(1, 0), members(3), calls(2, 2))
		}
	case wire.Propose:
		m.Members, m.Tail = members(1+rnd.Intn(4)), tail
	case wire.Install:
		m.View.Members, m.Entries = members(1+rnd.Intn(4)), tail
	}
	if m.Ballot > 0 {
		m.Ballot = b(1+uint32(rnd.Intn(4)), nodes[rnd.Intn(3)])
	}
	return m
}

// P1301: what is told hangs on what was done alone, and is right, whatever that was.
func TestP1301AnyCalls(t *testing.T) {
	rnd := rand.New(rand.NewSource(1301))
	for range 1500 {
		x := both(t, members(4)[rnd.Intn(4)], members(3))
		now := 0
		for range 60 {
			p := members(4)[rnd.Intn(4)]
			switch rnd.Intn(9) {
			case 0:
				now += rnd.Intn(9)
				x.tick(now)
			case 1:
				x.submit(1 + rnd.Intn(50))
			case 2:
				x.plain.Suspect(p)
				x.spilt.Suspect(p)
			case 3:
				x.plain.Join()
				x.spilt.Join()
				x.meet(members(rnd.Intn(5)))
			case 4:
				if rnd.Intn(5) == 0 {
					x.plain.Leave()
					x.spilt.Leave()
				}
			default:
				x.hear(now, p, anyMsg(rnd, x.plain.View().N))
			}
			x.look()
		}
	}
}
