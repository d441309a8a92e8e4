package seat_test

import (
	"math"
	"slices"
	"strconv"
	"strings"
	"testing"

	"gemot/api"
	"gemot/entry"
	"gemot/ident"
	"gemot/pact"
	"gemot/part"
	"gemot/seat"
	"gemot/store"
	"gemot/view"
	"gemot/wire"
)

// nodes are those of the members here, by ranks; they do not rise, so that ranks are no nodes.
var nodes = []uint8{9, 2, 15, 0, 7, 4, 1, 12}

// proc is a node in its first life.
func proc(node uint8) ident.Proc {
	return ident.Proc{Node: node, Life: 1}
}

func procs(nodes ...uint8) []ident.Proc {
	var l []ident.Proc
	for _, n := range nodes {
		l = append(l, proc(n))
	}
	return l
}

// members are the first n members of all first views here.
func members(n int) []ident.Proc {
	return procs(nodes[:n]...)
}

// strangers are none of the views of three members here, though some are of their nodes.
func strangers() []ident.Proc {
	return []ident.Proc{proc(0), proc(3), {Node: 9, Life: 2}, {Node: 2, Life: 2}}
}

// nobody are no processes.
func nobody() []ident.Proc {
	return []ident.Proc{{}, {Node: 9}, {Node: api.MaxNodes, Life: 1}, {Node: 255, Life: 255}}
}

// call is an entry of group 1, of a number by which it is told from others.
func call(n int) entry.Entry {
	return entry.Entry{
		Kind: entry.Check, ID: ident.ID{Client: proc(14), Seq: uint32(n)},
		Parts:  []part.Part{{Group: 1, Kind: part.Write, Key: "a", Value: "x"}, {Group: 2, Kind: part.Read, Key: "b"}},
		Writes: []store.Write{{Key: "a", Value: "x", Has: true}},
	}
}

// calls are n entries, from that of a number on.
func calls(from, n int) []entry.Entry {
	var l []entry.Entry
	for i := range n {
		l = append(l, call(from+i))
	}
	return l
}

// b is a ballot.
func b(round uint32, node uint8) uint64 {
	return pact.Ballot(round, node)
}

// of is a view of group 1.
func of(n uint32, nodes ...uint8) view.View {
	return view.View{Group: 1, N: n, Members: procs(nodes...)}
}

// The messages of group 1 that seats hear here.

func appending(n uint32, from, commit int, l []entry.Entry) wire.Msg {
	return wire.Msg{Kind: wire.Append, Group: 1, N: n, From: uint32(from), Commit: uint32(commit), Entries: l}
}

func acked(n uint32, from int) wire.Msg {
	return wire.Msg{Kind: wire.Acked, Group: 1, N: n, From: uint32(from)}
}

// balloted is a Prepare, Accept, Nack, or a Promise of one who holds nothing and has no tail.
func balloted(kind uint8, n uint32, ballot uint64) wire.Msg {
	return wire.Msg{Kind: kind, Group: 1, N: n, Ballot: ballot}
}

// promise is one of somebody who holds nothing.
func promise(n uint32, ballot uint64, tail []entry.Entry) wire.Msg {
	return wire.Msg{Kind: wire.Promise, Group: 1, N: n, Ballot: ballot, Entries: tail}
}

// holding is a promise of somebody who holds a value.
func holding(n uint32, ballot uint64, tail []entry.Entry, acc uint64, next []ident.Proc, held []entry.Entry) wire.Msg {
	m := promise(n, ballot, tail)
	m.Has, m.Acc, m.Members, m.Tail = true, acc, next, held
	return m
}

func propose(n uint32, ballot uint64, next []ident.Proc, tail []entry.Entry) wire.Msg {
	return wire.Msg{Kind: wire.Propose, Group: 1, N: n, Ballot: ballot, Members: next, Tail: tail}
}

func install(v view.View, l []entry.Entry) wire.Msg {
	return wire.Msg{Kind: wire.Install, View: v, Entries: l}
}

func joining(p ident.Proc) wire.Msg {
	return wire.Msg{Kind: wire.Join, Group: 1, Proc: p}
}

func leaving(p ident.Proc) wire.Msg {
	return wire.Msg{Kind: wire.Leave, Group: 1, Proc: p}
}

// showProcs tells processes by their nodes, and by their lives, if those are not the first.
func showProcs(l []ident.Proc) string {
	var s []string
	for _, p := range l {
		x := strconv.Itoa(int(p.Node))
		if p.Life != 1 {
			x += "." + strconv.Itoa(int(p.Life))
		}
		s = append(s, x)
	}
	return strings.Join(s, " ")
}

// showEntries tells entries by their numbers, and several in a row by the first and the last one.
func showEntries(l []entry.Entry) string {
	var s []string
	for i := 0; i < len(l); i++ {
		n := int(l[i].ID.Seq)
		if !entry.Same(l[i], call(n)) {
			s = append(s, "?"+entry.Show(l[i]))
			continue
		}
		k := i
		for k+1 < len(l) && entry.Same(l[k+1], call(n+k+1-i)) {
			k++
		}
		x := strconv.Itoa(n)
		if k > i {
			x += "-" + strconv.Itoa(n+k-i)
		}
		s = append(s, x)
		i = k
	}
	return "[" + strings.Join(s, " ") + "]"
}

func showBallot(b uint64) string {
	return strconv.FormatUint(b>>8, 10) + "/" + strconv.FormatUint(b&255, 10)
}

// showMsg tells all fields that a message has, but its group.
func showMsg(m wire.Msg) string {
	s := wire.Word(m.Kind)
	n := " v" + strconv.Itoa(int(m.N))
	switch m.Kind {
	case wire.Append:
		return s + n + " " + strconv.Itoa(int(m.From)) + showEntries(m.Entries) + " commit " + strconv.Itoa(int(m.Commit))
	case wire.Acked:
		return s + n + " " + strconv.Itoa(int(m.From))
	case wire.Prepare, wire.Accept, wire.Nack:
		return s + n + " " + showBallot(m.Ballot)
	case wire.Promise:
		s += n + " " + showBallot(m.Ballot) + " " + showEntries(m.Entries)
		if m.Has {
			s += " held " + showBallot(m.Acc) + " " + showProcs(m.Members) + showEntries(m.Tail)
		}
		return s
	case wire.Propose:
		return s + n + " " + showBallot(m.Ballot) + " " + showProcs(m.Members) + showEntries(m.Tail)
	case wire.Install:
		return s + " v" + strconv.FormatUint(uint64(m.View.N), 10) + " " + showProcs(m.View.Members) + showEntries(m.Entries)
	}
	return s + " " + showProcs([]ident.Proc{m.Proc})
}

// told fails, unless messages are those that are named, each with whom it is for ahead of it, parted by lines.
func told(t *testing.T, what string, out []seat.Out, want ...string) {
	t.Helper()
	var got []string
	for _, o := range out {
		group := o.Msg.Group
		if o.Msg.Kind == wire.Install {
			group = o.Msg.View.Group
		}
		if !o.Msg.Right() || group != 1 {
			t.Errorf("%s: %+v is not right, or of another group", what, o.Msg)
		}
		got = append(got, showProcs([]ident.Proc{o.To})+": "+showMsg(o.Msg))
	}
	if !slices.Equal(got, want) {
		t.Errorf("%s: it tells\n\t%s\nnot\n\t%s", what, strings.Join(got, "\n\t"), strings.Join(want, "\n\t"))
	}
}

// made is the seat of the member of a rank in a first view of n members.
func made(t *testing.T, n, rank int) *seat.Seat {
	t.Helper()
	s := seat.New(1, members(n)[rank], members(n))
	if s == nil {
		t.Fatalf("there is none of the member %d of %d", rank, n)
	}
	return s
}

// outside is the seat of a process in its first life that is no founder.
func outside(t *testing.T, node uint8) *seat.Seat {
	t.Helper()
	s := seat.New(1, proc(node), members(3))
	if s == nil || s.In() {
		t.Fatalf("node %d is not outside", node)
	}
	return s
}

// submit lets a head put the calls from a number on up to another one into the order.
func submit(t *testing.T, s *seat.Seat, from, to int) {
	t.Helper()
	for n := from; n <= to; n++ {
		if e := s.Submit(call(n)); e != api.OK {
			t.Fatalf("the call %d: %d", n, e)
		}
	}
}

// isIn fails, unless a seat is in a view of these nodes, or outside, if the number is 0.
func isIn(t *testing.T, what string, s *seat.Seat, n uint32, nodes ...uint8) {
	t.Helper()
	want := view.View{}
	if n > 0 {
		want = of(n, nodes...)
	}
	if v := s.View(); !view.Same(v, want) || s.In() != (n > 0) {
		t.Errorf("%s: it is in %s: %v; not %s", what, view.Show(v), s.In(), view.Show(want))
	}
}

// has fails, unless a seat's order are these entries, and so many are committed.
func has(t *testing.T, what string, s *seat.Seat, want string, commit int) {
	t.Helper()
	if got := showEntries(s.Log()); got != want || s.Commit() != commit {
		t.Errorf("%s: its order is %s, committed %d; not %s, %d", what, got, s.Commit(), want, commit)
	}
}

// P1301: a nil Seat, and one that New did not make.
func TestP1301None(t *testing.T) {
	var none *seat.Seat
	for name, s := range map[string]*seat.Seat{"nil": none, "unmade": {}} {
		for range 2 { // what was refused must not have made it one
			s.Meet(members(3))
			s.Join()
			s.Leave()
			s.Suspect(proc(2))
			s.Suspect(ident.Proc{})
			for _, e := range []entry.Entry{call(1), {}} {
				if x := s.Submit(e); x != api.ErrArg {
					t.Errorf("%s: Submit is %d", name, x)
				}
			}
			told(t, name, s.Tick(0))
			told(t, name, s.Tick(100))
			for _, m := range all(1) {
				m.Group, m.View.Group = 0, 0
				told(t, name, s.Hear(5, proc(2), m))
				told(t, name, s.Hear(5, ident.Proc{}, m))
			}
			isIn(t, name, s, 0)
			has(t, name, s, "[]", 0)
			if len(s.Been()) > 0 || s.Leads() {
				t.Errorf("%s: it has been in %v, and leads: %v", name, s.Been(), s.Leads())
			}
		}
	}
}

// all is a message of each kind, about a view of a number, that seats of group 1 hear.
func all(n uint32) []wire.Msg {
	return []wire.Msg{
		appending(n, 0, 0, nil), acked(n, 0), balloted(wire.Prepare, n, b(1, 2)), balloted(wire.Accept, n, b(1, 2)),
		balloted(wire.Nack, n, b(1, 2)), promise(n, b(1, 2), nil), propose(n, b(1, 2), members(2), nil),
		install(of(n, 9, 2), nil), joining(proc(3)), leaving(proc(2)),
	}
}

// P1302: of whom, and in which groups, there are seats.
func TestP1302New(t *testing.T) {
	for _, p := range nobody() {
		if seat.New(1, p, members(3)) != nil || seat.New(1, p, []ident.Proc{p}) != nil {
			t.Errorf("%v has a seat", p)
		}
	}
	for _, g := range []uint8{api.MaxGroups, 5, 255} {
		if seat.New(g, proc(9), members(3)) != nil || seat.New(g, proc(3), members(3)) != nil {
			t.Errorf("there is a seat in group %d", g)
		}
	}
	wrong := map[string][]ident.Proc{
		"nil": nil, "nobody": {}, "too many": append(members(8), proc(3)),
		"a node twice": {proc(9), {Node: 9, Life: 2}}, "one twice": procs(9, 9), "a wrong one": {proc(9), {Node: 3}},
	}
	for name, l := range wrong {
		if seat.New(1, proc(9), l) != nil || seat.New(1, proc(5), l) != nil {
			t.Errorf("%s: there is a seat", name)
		}
	}
	for g := range uint8(api.MaxGroups) {
		for n := 1; n <= api.MaxView; n++ {
			for rank, p := range members(n) {
				s := seat.New(g, p, members(n))
				v := view.View{Group: g, N: 1, Members: members(n)}
				if !view.Same(s.View(), v) || !s.In() || s.Leads() != (rank == 0) || len(s.Been()) != 1 || !view.Same(s.Been()[0], v) {
					t.Errorf("the founder %d of %d, in group %d: %s", rank, n, g, view.Show(s.View()))
				}
				has(t, "a founder", s, "[]", 0)
			}
		}
	}
}

// P1302: who is no founder is outside, in whichever life.
func TestP1302Outside(t *testing.T) {
	for _, p := range strangers() {
		s := seat.New(1, p, members(3))
		if s == nil {
			t.Fatalf("%v has no seat", p)
		}
		isIn(t, "outside", s, 0)
		has(t, "outside", s, "[]", 0)
		if len(s.Been()) > 0 || s.Leads() || s.Submit(call(1)) != api.ErrOut || s.Submit(entry.Entry{}) != api.ErrOut {
			t.Errorf("%v is not outside", p)
		}
	}
}

// P1302: a founder has seen view 1, who is outside has seen none; founders may propose from 2 on.
func TestP1302AtFirst(t *testing.T) {
	s := made(t, 3, 1)
	s.Hear(0, proc(9), install(of(1, 2, 9), calls(1, 1)))
	isIn(t, "a founder", s, 1, 9, 2, 15)
	has(t, "a founder", s, "[]", 0)
	s.Hear(0, proc(9), install(of(2, 2, 9), calls(1, 1)))
	isIn(t, "a founder", s, 2, 2, 9)
	o := outside(t, 3)
	o.Hear(0, proc(9), install(of(1, 9, 3), calls(1, 1)))
	isIn(t, "one outside", o, 1, 9, 3)
	has(t, "one outside", o, "[1]", 1)
	head := made(t, 3, 0)
	head.Suspect(proc(2))
	quiet := []string{"2: Append v1 0[] commit 0", "15: Append v1 0[] commit 0"}
	for _, now := range []int{math.MinInt, -5, 0, 1} {
		told(t, "a founder ahead of 2", head.Tick(now), quiet...)
	}
	told(t, "a founder at 2", head.Tick(2), append(quiet, "2: Prepare v1 1/9", "15: Prepare v1 1/9")...)
}

// P1302: whom it asks to be let in, new ones for old ones; it asks if it wants to join, which it may outside alone.
func TestP1302MeetAndJoin(t *testing.T) {
	s := outside(t, 3)
	told(t, "at first", s.Tick(0))
	s.Meet(procs(9, 2))
	told(t, "it does not want to", s.Tick(1))
	s.Join()
	told(t, "it wants to", s.Tick(2), "9: Join 3", "2: Join 3")
	s.Meet(append(procs(15, 3, 9), ident.Proc{Node: 2, Life: 7}))
	told(t, "others, and itself", s.Tick(2), "15: Join 3", "9: Join 3", "2.7: Join 3")
	s.Meet([]ident.Proc{{Node: 3, Life: 2}})
	told(t, "itself in another life", s.Tick(3), "3.2: Join 3")
	s.Meet(procs(9, 2, 9))
	told(t, "one twice", s.Tick(3), "9: Join 3", "2: Join 3", "9: Join 3")
	for _, l := range [][]ident.Proc{nil, {}, procs(3)} {
		s.Meet(l)
		told(t, "nobody", s.Tick(4))
	}
	s.Meet(procs(9))
	s.Join()
	told(t, "it wants to, twice", s.Tick(5), "9: Join 3")
	s.Hear(6, proc(9), install(of(4, 9, 2), nil))
	told(t, "it is told that it is out", s.Tick(6), "9: Join 3")
	s.Hear(6, proc(9), install(of(5, 9, 3), nil))
	told(t, "it is in", s.Tick(7))
	s.Join()
	s.Hear(8, proc(9), install(of(6, 9, 2), nil))
	isIn(t, "it is out again", s, 0)
	told(t, "it wanted to while it was in", s.Tick(9))
	s.Join()
	told(t, "it wants to, once more", s.Tick(10), "9: Join 3")
}

// P1302: whom it met when it was in counts outside, too.
func TestP1302MeetInside(t *testing.T) {
	s := made(t, 3, 1)
	s.Meet(procs(7, 2))
	s.Hear(0, proc(9), install(of(2, 9, 15), nil))
	s.Join()
	told(t, "outside", s.Tick(1), "7: Join 2")
}

// P1302: it leaves, if it is in.
func TestP1302Leave(t *testing.T) {
	s := made(t, 3, 1)
	told(t, "it stays", s.Tick(0))
	for range 2 {
		s.Leave()
		told(t, "it leaves", s.Tick(1), "9: Leave 2", "15: Leave 2")
	}
	o := outside(t, 3)
	o.Leave()
	told(t, "outside", o.Tick(0))
	o.Hear(0, proc(9), install(of(2, 9, 3), nil))
	told(t, "and then in", o.Tick(1))
}

// P1302: another member is suspected, and nobody else: so there is nobody to be left out.
func TestP1302Suspect(t *testing.T) {
	o := outside(t, 3)
	o.Suspect(proc(9))
	o.Hear(0, proc(9), install(of(2, 3, 9, 7), nil))
	told(t, "who is suspected outside", o.Tick(5), "9: Append v2 0[] commit 0", "7: Append v2 0[] commit 0")
	s := made(t, 3, 0)
	for _, p := range append(append(nobody(), strangers()...), proc(9)) {
		s.Suspect(p)
		told(t, "who is no other member", s.Tick(5), "2: Append v1 0[] commit 0", "15: Append v1 0[] commit 0")
	}
	s.Suspect(proc(15))
	l := s.Tick(5)
	if len(l) != 4 {
		t.Errorf("another member is suspected, and it tells %d", len(l))
	}
}

// P1302: what may be submitted.
func TestP1302Submit(t *testing.T) {
	s, other := made(t, 2, 0), made(t, 2, 1)
	child := entry.Entry{Kind: entry.Call, ID: call(1).ID, Parts: call(1).Parts[1:]}
	for _, e := range []entry.Entry{{}, {Kind: 9}, child} {
		if x := s.Submit(e); x != api.ErrArg {
			t.Errorf("%s: %d", entry.Show(e), x)
		}
	}
	if x := other.Submit(call(1)); x != api.ErrArg {
		t.Errorf("at another one than the head: %d", x)
	}
	submit(t, s, 1, api.MaxLog)
	if x := s.Submit(call(7)); x != api.ErrFull {
		t.Errorf("full: %d", x)
	}
	has(t, "full", s, "[1-400]", 0)
	s.Hear(1, proc(2), balloted(wire.Prepare, 1, b(1, 2)))
	if x := s.Submit(call(7)); x != api.ErrBlock {
		t.Errorf("full and shut: %d", x)
	}
	s.Hear(1, proc(2), install(of(2, 2), nil))
	if x := s.Submit(call(7)); x != api.ErrOut {
		t.Errorf("out: %d", x)
	}
	alone := made(t, 1, 0)
	submit(t, alone, 1, 2)
	has(t, "one alone", alone, "[1-2]", 2)
}

// P1305: the views that it was in, and the order when it went out.
func TestP1305Looks(t *testing.T) {
	s := made(t, 3, 0)
	submit(t, s, 1, 5)
	s.Hear(0, proc(2), acked(1, 3))
	has(t, "in", s, "[1-5]", 3)
	s.Hear(1, proc(2), install(of(2, 2, 15), calls(1, 4)))
	isIn(t, "out", s, 0)
	has(t, "out", s, "[1-5]", 3)
	if s.Leads() {
		t.Error("it leads outside")
	}
	s.Hear(2, proc(2), install(of(3, 15, 9), calls(1, 4)))
	has(t, "in again", s, "[1-4]", 4)
	s.Hear(2, proc(2), install(of(7, 9, 15), calls(1, 6)))
	if !s.Leads() {
		t.Error("it is the head")
	}
	s.Hear(3, proc(15), balloted(wire.Prepare, 7, b(2, 15)))
	if s.Leads() {
		t.Error("it leads, though its order is shut")
	}
	s.Hear(4, proc(15), install(of(8, 15), calls(1, 9)))
	has(t, "out again", s, "[1-6]", 6)
	var got []string
	for _, v := range s.Been() {
		got = append(got, view.Show(v))
	}
	want := []string{"g1 v1: 9.1 2.1 15.1", "g1 v3: 15.1 9.1", "g1 v7: 9.1 15.1"}
	if !slices.Equal(got, want) {
		t.Errorf("it has been in %v, not %v", got, want)
	}
}
