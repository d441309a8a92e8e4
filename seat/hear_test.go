package seat_test

import (
	"math"
	"strconv"
	"testing"

	"gemot/api"
	"gemot/entry"
	"gemot/ident"
	"gemot/pact"
	"gemot/seat"
	"gemot/wire"
)

// untouched fails, unless the member 2 of three is as it was made: it has promised nothing, met no round, and wants nothing else.
func untouched(t *testing.T, what string, s *seat.Seat) {
	t.Helper()
	isIn(t, what, s, 1, 9, 2, 15)
	has(t, what, s, "[]", 0)
	told(t, what, s.Tick(1000))
	s.Suspect(proc(9))
	told(t, what, s.Tick(1000), "9: Prepare v1 1/2", "15: Prepare v1 1/2")
	told(t, what, s.Hear(1000, proc(15), promise(1, b(1, 2), nil)), "9: Propose v1 1/2 2 15[]", "15: Propose v1 1/2 2 15[]")
}

// P1304: messages of other groups are not heard, nor other kinds, nor those that are not right, nor what comes from nobody.
func TestP1304NotHeard(t *testing.T) {
	full := wire.Msg{Group: 1, ID: call(1).ID, Parts: call(1).Parts}
	others := []wire.Msg{
		full, {Kind: wire.Answer, ID: call(1).ID, View: of(3, 9, 2)}, {Kind: wire.Refuse, ID: call(1).ID},
		{Kind: wire.Slay, Group: 1, Proc: proc(9)}, {Kind: 14}, {Kind: 255, Group: 1}, {},
	}
	for i, m := range others {
		s := made(t, 3, 1)
		told(t, "another kind", s.Hear(5, proc(9), m))
		untouched(t, "another kind, "+strconv.Itoa(i), s)
	}
	for _, n := range []uint32{1, 2} {
		for i, m := range all(n) {
			for _, from := range nobody() {
				s := made(t, 3, 1)
				told(t, "from nobody", s.Hear(5, from, m))
				untouched(t, "from nobody, "+strconv.Itoa(i), s)
			}
			for _, g := range []uint8{0, 2, api.MaxGroups, 255} {
				other := m
				if m.Kind == wire.Install {
					other.View.Group = g
				} else {
					other.Group = g
				}
				s := made(t, 3, 1)
				told(t, "another group", s.Hear(5, proc(9), other))
				untouched(t, "another group, "+strconv.Itoa(i), s)
			}
			wrong := m
			wrong.Code = 1
			s := made(t, 3, 1)
			told(t, "not right", s.Hear(5, proc(9), wrong))
			untouched(t, "not right, "+strconv.Itoa(i), s)
		}
	}
}

// P1304: a message that is not right in what its kind has.
func TestP1304WrongFields(t *testing.T) {
	long := append(calls(1, api.MaxLog), call(1))
	wrong := []wire.Msg{
		appending(0, 0, 0, nil), appending(2, 0, api.MaxLog+1, nil), appending(2, api.MaxLog, 0, calls(1, 1)), appending(1, 0, 0, []entry.Entry{{}}),
		balloted(wire.Prepare, 1, 0), propose(1, b(1, 9), nil, nil), propose(1, b(1, 9), []ident.Proc{{}}, nil), propose(1, b(1, 9), procs(2), long),
		install(of(2), nil), install(of(2, 9, 9), nil), install(of(2, 2, 9), long), install(of(2, 2, 9), []entry.Entry{{}}),
		joining(ident.Proc{}), leaving(ident.Proc{Node: 9}),
	}
	for i, m := range wrong {
		s := made(t, 3, 1)
		told(t, "not right", s.Hear(5, proc(9), m))
		untouched(t, "not right, "+strconv.Itoa(i), s)
	}
}

// P1304: what asks something of a view that is over is answered by the view that there is, whoever asks; what answers something in it, not at all.
func TestP1304Behind(t *testing.T) {
	s := outside(t, 7)
	s.Hear(0, proc(0), install(of(5, 0, 7, 9), calls(1, 3)))
	s.Hear(0, proc(0), appending(5, 3, 3, calls(4, 2)))
	for _, from := range procs(0, 9, 3, 7) {
		to := showProcs([]ident.Proc{from})
		for _, n := range []uint32{1, 4} {
			long := calls(1, api.MaxLog) // which view it is about is looked at first
			for _, m := range []wire.Msg{
				appending(n, 0, 0, nil), acked(n, 5), balloted(wire.Prepare, n, b(1, 2)),
				propose(n, b(1, 2), members(2), nil), propose(n, b(1, 2), members(2), long),
			} {
				told(t, "of a view that is over", s.Hear(1, from, m), to+": Install v5 0 7 9[1-3]")
			}
			for _, m := range []wire.Msg{balloted(wire.Accept, n, b(1, 2)), balloted(wire.Nack, n, b(9, 2)), promise(n, b(1, 2), nil), promise(n, b(1, 2), long)} {
				told(t, "an answer in a view that is over", s.Hear(1, from, m))
			}
		}
	}
	has(t, "behind that", s, "[1-5]", 3)
	s.Suspect(proc(0))
	told(t, "rounds of a view that is over", s.Tick(100), "0: Prepare v5 1/7", "9: Prepare v5 1/7")
}

// P1304: an Append of the head of its view is taken, and answered by how many it has then.
func TestP1304Append(t *testing.T) {
	s := made(t, 3, 1)
	for _, c := range []struct {
		name         string
		from, commit int
		first, n     int
		has          int
		order        string
		committed    int
	}{
		{"two", 0, 0, 1, 2, 2, "[1-2]", 0},
		{"the same", 0, 1, 1, 2, 2, "[1-2]", 1},
		{"behind them", 2, 1, 3, 1, 3, "[1-3]", 1},
		{"some are there", 1, 3, 2, 4, 5, "[1-5]", 3},
		{"none", 5, 9, 0, 0, 5, "[1-5]", 5},
		{"too far", 6, 9, 7, 2, 5, "[1-5]", 5},
	} {
		told(t, c.name, s.Hear(1, proc(9), appending(1, c.from, c.commit, calls(c.first, c.n))), "9: Acked v1 "+strconv.Itoa(c.has))
		has(t, c.name, s, c.order, c.committed)
	}
	for _, from := range []ident.Proc{proc(15), proc(2), proc(3), {Node: 9, Life: 2}} {
		told(t, "not from the head", s.Hear(1, from, appending(1, 5, 5, calls(6, 1))))
	}
	has(t, "not from the head", s, "[1-5]", 5)
	head := made(t, 3, 0)
	for _, from := range procs(9, 2) {
		told(t, "to the head", head.Hear(1, from, appending(1, 0, 0, calls(6, 1))))
	}
	has(t, "to the head", head, "[]", 0)
}

// P1304: an order that is shut takes nothing more, and hears what is committed of what it has.
func TestP1304AppendShut(t *testing.T) {
	s := made(t, 3, 1)
	s.Hear(1, proc(9), appending(1, 0, 0, calls(1, 2)))
	s.Hear(1, proc(15), balloted(wire.Prepare, 1, b(1, 15)))
	told(t, "shut", s.Hear(1, proc(9), appending(1, 2, 3, calls(3, 2))), "9: Acked v1 2")
	has(t, "shut", s, "[1-2]", 2)
}

// P1304: an Append of a view that it has not seen: it tells where it is; outside that it wants in, whether it does or not.
func TestP1304AppendAhead(t *testing.T) {
	s := made(t, 3, 1)
	s.Hear(1, proc(9), appending(1, 0, 0, calls(1, 2)))
	for _, from := range procs(9, 15, 3) {
		told(t, "ahead", s.Hear(1, from, appending(2, 0, 5, calls(7, 3))), showProcs([]ident.Proc{from})+": Acked v1 0")
		told(t, "far ahead", s.Hear(1, from, appending(math.MaxUint32, 3, 0, nil)), showProcs([]ident.Proc{from})+": Acked v1 0")
	}
	has(t, "ahead", s, "[1-2]", 0)
	head := made(t, 3, 0)
	told(t, "at the head", head.Hear(1, proc(2), appending(2, 0, 0, nil)), "2: Acked v1 0")
	for i, m := range all(2) {
		if m.Kind != wire.Append && m.Kind != wire.Install {
			o := made(t, 3, 1)
			told(t, "another kind ahead", o.Hear(1, proc(9), m))
			if m.Kind != wire.Join && m.Kind != wire.Leave {
				untouched(t, "another kind ahead, "+strconv.Itoa(i), o)
			}
		}
	}
	o := outside(t, 3)
	told(t, "outside", o.Hear(1, proc(9), appending(1, 0, 0, nil)), "9: Join 3")
	o.Hear(2, proc(9), install(of(4, 9, 2), nil))
	for n := uint32(1); n < 5; n++ {
		told(t, "outside, and it has seen it", o.Hear(3, proc(9), appending(n, 0, 0, nil)))
	}
	told(t, "outside, and it has not", o.Hear(3, proc(9), appending(5, 0, 0, nil)), "9: Join 3")
	told(t, "it wanted nothing", o.Tick(4))
}

// P1304: outside nothing but Append and Install is heard.
func TestP1304Outside(t *testing.T) {
	for _, n := range []uint32{1, 2, 7} {
		for _, m := range all(n) {
			o := outside(t, 3)
			o.Hear(0, proc(9), install(of(2, 9, 2), nil))
			l := o.Hear(1, proc(9), m)
			if (m.Kind != wire.Append || n != 7) && len(l) > 0 {
				t.Errorf("outside, of %d: it tells %v", n, l)
			}
			if n != 7 || m.Kind != wire.Install {
				isIn(t, "outside", o, 0)
			}
			has(t, "outside", o, "[]", 0)
			told(t, "outside", o.Tick(1000))
		}
	}
	o := outside(t, 3)
	o.Hear(0, proc(9), joining(proc(4)))
	o.Hear(0, proc(9), leaving(proc(9)))
	o.Hear(0, proc(9), balloted(wire.Nack, 1, b(7, 9)))
	o.Hear(0, proc(9), install(of(2, 3, 9, 2), nil))
	told(t, "nobody was heard of", o.Tick(5), "9: Append v2 0[] commit 0", "2: Append v2 0[] commit 0")
	o.Suspect(proc(9))
	if l := o.Tick(5); len(l) != 4 || l[2].Msg.Ballot != b(1, 3) {
		t.Errorf("no round was met: %v", l)
	}
}

// P1304: what members acknowledge counts at the head, in its view.
func TestP1304Acked(t *testing.T) {
	s := made(t, 3, 0)
	submit(t, s, 1, 5)
	for _, from := range []ident.Proc{proc(9), proc(3), {Node: 2, Life: 2}} {
		told(t, "not of another member", s.Hear(1, from, acked(1, 5)))
	}
	told(t, "of a view ahead", s.Hear(1, proc(2), acked(2, 5)))
	told(t, "of more than there is", s.Hear(1, proc(2), acked(1, 6)))
	has(t, "none is committed", s, "[1-5]", 0)
	told(t, "of some", s.Hear(1, proc(15), acked(1, 4)))
	has(t, "of some", s, "[1-5]", 4)
	other := made(t, 3, 1)
	other.Hear(1, proc(9), appending(1, 0, 0, calls(1, 2)))
	told(t, "elsewhere", other.Hear(1, proc(15), acked(1, 2)))
	has(t, "elsewhere", other, "[1-2]", 0)
}

// P1304: a Prepare of a member is promised, with the tail and what is held, or refused with what was promised.
func TestP1304Prepare(t *testing.T) {
	s := outside(t, 7)
	s.Hear(0, proc(0), install(of(5, 0, 7, 9), calls(1, 3)))
	s.Hear(0, proc(0), appending(5, 3, 3, calls(4, 2)))
	for _, from := range []ident.Proc{proc(3), {Node: 9, Life: 2}} {
		told(t, "of no member", s.Hear(1, from, balloted(wire.Prepare, 5, b(30, 3))))
	}
	told(t, "of a view ahead", s.Hear(1, proc(9), balloted(wire.Prepare, 6, b(30, 3))))
	s.Hear(1, proc(0), appending(5, 5, 3, calls(6, 1)))
	has(t, "it is not shut", s, "[1-6]", 3)
	told(t, "the first one", s.Hear(1, proc(9), balloted(wire.Prepare, 5, b(4, 9))), "9: Promise v5 4/9 [4-6]")
	s.Hear(1, proc(0), appending(5, 6, 3, calls(7, 1)))
	has(t, "it is shut", s, "[1-6]", 3)
	told(t, "it once more", s.Hear(1, proc(9), balloted(wire.Prepare, 5, b(4, 9))), "9: Promise v5 4/9 [4-6]")
	told(t, "a lesser one", s.Hear(1, proc(0), balloted(wire.Prepare, 5, b(4, 8))), "0: Nack v5 4/9")
	told(t, "a greater one", s.Hear(1, proc(0), balloted(wire.Prepare, 5, b(5, 0))), "0: Promise v5 5/0 [4-6]")
	told(t, "of its own", s.Hear(1, proc(7), balloted(wire.Prepare, 5, b(6, 0))), "7: Promise v5 6/0 [4-6]")
	told(t, "proposed", s.Hear(1, proc(9), propose(5, b(7, 9), procs(9, 7), calls(4, 2))), "9: Accept v5 7/9")
	told(t, "one held", s.Hear(1, proc(0), balloted(wire.Prepare, 5, b(8, 0))), "0: Promise v5 8/0 [4-6] held 7/9 9 7[4-5]")
}

// P1304: a Propose of a member is accepted, or refused with what was promised.
func TestP1304Propose(t *testing.T) {
	s := made(t, 3, 2)
	s.Hear(0, proc(9), appending(1, 0, 0, calls(1, 2)))
	for _, from := range []ident.Proc{proc(3), {Node: 2, Life: 2}} {
		told(t, "of no member", s.Hear(1, from, propose(1, b(5, 3), procs(2), nil)))
	}
	told(t, "of a view ahead", s.Hear(1, proc(2), propose(2, b(5, 3), procs(2), nil)))
	s.Hear(0, proc(9), appending(1, 2, 0, calls(3, 1)))
	has(t, "it is not shut", s, "[1-3]", 0)
	told(t, "that nobody prepared", s.Hear(1, proc(2), propose(1, b(5, 2), procs(2, 9), calls(1, 3))), "2: Accept v1 5/2")
	s.Hear(0, proc(9), appending(1, 3, 0, calls(4, 1)))
	has(t, "it is shut", s, "[1-3]", 0)
	told(t, "it once more", s.Hear(1, proc(2), propose(1, b(5, 2), procs(2, 9), calls(1, 3))), "2: Accept v1 5/2")
	told(t, "a lesser one", s.Hear(1, proc(9), propose(1, b(4, 9), procs(9), nil)), "9: Nack v1 5/2")
	told(t, "a lesser Prepare", s.Hear(1, proc(9), balloted(wire.Prepare, 1, b(5, 1))), "9: Nack v1 5/2")
	told(t, "a greater Prepare", s.Hear(1, proc(9), balloted(wire.Prepare, 1, b(6, 9))), "9: Promise v1 6/9 [1-3] held 5/2 2 9[1-3]")
	told(t, "a lesser one than that", s.Hear(1, proc(2), propose(1, b(5, 2), procs(2, 9), calls(1, 3))), "2: Nack v1 6/9")
	isIn(t, "nothing is decided here", s, 1, 9, 2, 15)
}

// P1304: by an acceptance alone the order is shut, and since then; the member begins, if nobody goes on.
func TestP1304ShutByPropose(t *testing.T) {
	s := made(t, 3, 1)
	s.Hear(40, proc(15), propose(1, b(5, 15), procs(15), nil))
	if prepares(s, 57) {
		t.Error("it begins too early")
	}
	if !prepares(s, 58) {
		t.Error("it does not begin")
	}
}

// P1304: tails that an order has no room for are not heard of: neither a member's own one, nor that of a value.
func TestP1304LongTails(t *testing.T) {
	for _, base := range []int{0, 1, 50, api.MaxLog} {
		room := api.MaxLog - base
		fits, long := calls(1, room), calls(1, room+1)
		if base == 0 {
			long = nil // one that is longer is not right anyway
		}
		next := procs(0, 5)
		s := numbered(t, 2, base, 7, 5, 0)
		if long != nil {
			told(t, "too long", s.Hear(1, proc(5), propose(2, b(9, 5), next, long)))
		}
		s.Suspect(proc(5))
		if l := s.Tick(2); len(l) != 4 || l[2].Msg.Ballot != b(1, 7) {
			t.Errorf("base %d: rounds of what is not heard are not met: %v", base, l)
		}
		if long != nil {
			told(t, "too long a tail", s.Hear(2, proc(0), promise(2, b(1, 7), long)))
			told(t, "too long a tail, and a value", s.Hear(2, proc(0), holding(2, b(1, 7), long, b(1, 0), next, fits)))
			told(t, "too long a value", s.Hear(2, proc(0), holding(2, b(1, 7), nil, b(1, 0), next, long)))
		}
		l := s.Hear(2, proc(0), holding(2, b(1, 7), fits, b(1, 0), next, fits))
		if len(l) != 2 || len(l[0].Msg.Tail) != room {
			t.Errorf("base %d: one that fits: %v", base, l)
		}
		told(t, "one that fits", s.Hear(3, proc(5), propose(2, b(9, 5), next, fits)), "5: Accept v2 9/5")
	}
}

// P1304: the round is that of each Ballot that is told for its view, whoever tells it, and not less than it was.
func TestP1304Rounds(t *testing.T) {
	for _, from := range procs(15, 3) {
		for i, m := range []wire.Msg{
			balloted(wire.Prepare, 1, b(7, 3)), balloted(wire.Accept, 1, b(7, 3)), balloted(wire.Nack, 1, b(7, 3)),
			promise(1, b(7, 3), nil), propose(1, b(7, 3), procs(9, 2), nil), holding(1, b(7, 3), nil, b(900, 3), procs(9, 2), nil),
		} {
			s := made(t, 3, 1)
			s.Hear(0, from, m)
			s.Hear(0, from, balloted(wire.Nack, 1, b(5, 200)))
			s.Hear(0, from, balloted(wire.Nack, 2, b(50, 1)))
			s.Suspect(proc(9))
			told(t, "of a round, "+strconv.Itoa(i), s.Tick(100), "9: Prepare v1 8/2", "15: Prepare v1 8/2")
		}
	}
}

// P1304: by a promise or an acceptance of a greater ballot its own proposer is no more, and it waits for 10; not by one that is not greater.
func TestP1304GivesWay(t *testing.T) {
	for _, greater := range []wire.Msg{
		balloted(wire.Prepare, 1, b(1, 15)), balloted(wire.Prepare, 1, b(9, 0)), balloted(wire.Nack, 1, b(1, 3)), balloted(wire.Nack, 1, b(2, 0)),
		propose(1, b(1, 15), procs(9, 2, 15), nil), propose(1, b(4, 15), procs(9, 2, 15), nil),
	} {
		s := made(t, 3, 1)
		s.Suspect(proc(9))
		s.Tick(2)
		s.Hear(20, proc(15), greater)
		told(t, "it waits", s.Tick(20))
		told(t, "its own is no more", s.Hear(20, proc(15), promise(1, b(1, 2), nil)))
		told(t, "it waits", s.Tick(29))
		next := strconv.Itoa(int(pact.Round(greater.Ballot))+1) + "/2"
		told(t, "it begins again", s.Tick(30), "9: Prepare v1 "+next, "15: Prepare v1 "+next)
	}
	for _, m := range []wire.Msg{
		balloted(wire.Prepare, 1, b(1, 1)), balloted(wire.Prepare, 1, b(1, 2)), balloted(wire.Nack, 1, b(1, 2)), balloted(wire.Nack, 1, b(1, 1)),
		balloted(wire.Nack, 2, b(5, 2)), propose(1, b(1, 1), procs(2), nil), balloted(wire.Accept, 1, b(3, 3)), promise(1, b(3, 3), nil),
	} {
		s := made(t, 3, 1)
		s.Suspect(proc(9))
		s.Tick(2)
		s.Hear(20, proc(15), m)
		told(t, "it goes on", s.Tick(20), "9: Prepare v1 1/2", "15: Prepare v1 1/2")
	}
	far := made(t, 3, 1)
	far.Suspect(proc(9))
	far.Tick(2)
	told(t, "of no member", far.Hear(3, proc(3), balloted(wire.Prepare, 1, b(9, 3))))
	told(t, "it goes on", far.Tick(3), "9: Prepare v1 1/2", "15: Prepare v1 1/2")
}

// P1304: who has no proposer does not wait for what others propose.
func TestP1304NoneToGiveWay(t *testing.T) {
	for _, m := range []wire.Msg{balloted(wire.Prepare, 1, b(5, 15)), balloted(wire.Nack, 1, b(5, 15)), propose(1, b(5, 15), procs(2), nil)} {
		s := made(t, 3, 1)
		s.Hear(20, proc(15), m)
		s.Suspect(proc(9))
		told(t, "it begins", s.Tick(20), "9: Prepare v1 6/2", "15: Prepare v1 6/2")
	}
}

// P1304: promises and acceptances count, of members, for its view and its proposer's ballot.
func TestP1304Counts(t *testing.T) {
	s := made(t, 3, 1)
	told(t, "none is asked for", s.Hear(1, proc(15), promise(1, b(1, 2), nil)))
	told(t, "none is asked for", s.Hear(1, proc(15), balloted(wire.Accept, 1, b(1, 2))))
	s.Suspect(proc(9))
	s.Tick(5)
	for _, m := range []wire.Msg{
		promise(1, b(1, 2), nil), promise(1, b(2, 1), nil), promise(1, b(2, 3), nil), promise(2, b(2, 2), nil), balloted(wire.Accept, 1, b(2, 2)),
	} {
		told(t, "another ballot or view, or not yet", s.Hear(6, proc(15), m))
	}
	told(t, "of no member", s.Hear(6, proc(3), promise(1, b(2, 2), nil)))
	told(t, "its own, that counts already", s.Hear(6, proc(2), promise(1, b(2, 2), calls(1, 9))))
	told(t, "promised", s.Hear(6, proc(15), promise(1, b(2, 2), calls(1, 1))), "9: Propose v1 2/2 2 15[1]", "15: Propose v1 2/2 2 15[1]")
	told(t, "promised too late", s.Hear(6, proc(9), promise(1, b(2, 2), calls(1, 3))))
	for _, m := range []wire.Msg{balloted(wire.Accept, 1, b(1, 2)), balloted(wire.Accept, 1, b(2, 3)), balloted(wire.Accept, 2, b(2, 2))} {
		told(t, "another ballot or view", s.Hear(6, proc(15), m))
	}
	told(t, "of no member", s.Hear(6, proc(3), balloted(wire.Accept, 1, b(2, 2))))
	told(t, "its own, that counts already", s.Hear(6, proc(2), balloted(wire.Accept, 1, b(2, 2))))
	told(t, "accepted", s.Hear(6, proc(9), balloted(wire.Accept, 1, b(2, 2))), "9: Install v2 2 15[1]", "15: Install v2 2 15[1]")
	told(t, "accepted too late", s.Hear(6, proc(15), balloted(wire.Accept, 1, b(2, 2))))
	isIn(t, "decided", s, 2, 2, 15)
}

// P1304: the value with the greatest ballot among those that were held is proposed; of two of one ballot the first one.
func TestP1304Held(t *testing.T) {
	s := made(t, 5, 1)
	s.Suspect(proc(9))
	s.Tick(2)
	s.Hear(2, proc(0), holding(1, b(1, 2), calls(1, 5), b(1, 0), procs(0, 7), calls(1, 2)))
	told(t, "promised", s.Hear(2, proc(7), holding(1, b(1, 2), calls(1, 6), b(1, 1), procs(7, 0), calls(1, 3))),
		"9: Propose v1 1/2 7 0[1-3]", "15: Propose v1 1/2 7 0[1-3]", "0: Propose v1 1/2 7 0[1-3]", "7: Propose v1 1/2 7 0[1-3]")
}

// P1304: a view of a greater number than it has seen is adopted, whoever tells it; those who are suspected, join or leave are kept as far as they still are what they were.
func TestP1304Install(t *testing.T) {
	s := made(t, 5, 1)
	s.Hear(0, proc(9), appending(1, 0, 0, calls(1, 3)))
	s.Suspect(proc(9))
	s.Suspect(proc(0))
	s.Hear(0, proc(7), leaving(proc(7)))
	s.Hear(0, proc(7), leaving(proc(15)))
	for _, n := range []uint8{3, 5, 8} {
		s.Hear(0, proc(n), joining(proc(n)))
	}
	s.Tick(2)
	told(t, "told by anybody", s.Hear(9, proc(3), install(of(6, 2, 0, 5, 7, 12), calls(1, 2))))
	isIn(t, "told", s, 6, 2, 0, 5, 7, 12)
	has(t, "told", s, "[1-2]", 2)
	if !s.Leads() {
		t.Error("its order is open")
	}
	for _, n := range []uint32{1, 5, 6} {
		told(t, "of a number that it has seen", s.Hear(9, proc(3), install(of(n, 9, 5), calls(1, 9))))
		isIn(t, "of a number that it has seen", s, 6, 2, 0, 5, 7, 12)
	}
	s.Hear(10, proc(5), promise(6, b(1, 2), nil)) // of a proposer that it has no more
	s.Tick(10)
	s.Tick(11)
	s.Hear(11, proc(5), promise(6, b(2, 2), nil))
	if l := s.Hear(11, proc(12), promise(6, b(2, 2), nil)); len(l) != 4 || showMsg(l[0].Msg) != "Propose v6 2/2 2 5 12 3 8[]" {
		t.Errorf("suspected are 0, leaving 7, joining 3 and 8: %v", l)
	}
}

// P1304: a new view has a new order and a new acceptor, and is not shut.
func TestP1304InstallAnew(t *testing.T) {
	s := made(t, 3, 1)
	s.Hear(0, proc(15), propose(1, b(9, 15), procs(2), calls(1, 1)))
	s.Hear(1, proc(15), install(of(2, 9, 2), nil))
	told(t, "behind it", s.Tick(1000))
	told(t, "a ballot that is less than the promised one", s.Hear(1, proc(9), balloted(wire.Prepare, 2, b(1, 9))), "9: Promise v2 1/9 []")
}

// P1304: who is told a view without it is outside, and comes in by a later one.
func TestP1304InstallOut(t *testing.T) {
	s := made(t, 3, 1)
	s.Suspect(proc(9))
	s.Tick(2)
	told(t, "told", s.Hear(3, proc(15), install(of(3, 15, 9), nil)))
	isIn(t, "out", s, 0)
	told(t, "it proposes no more", s.Tick(100))
	told(t, "it is promised nothing more", s.Hear(100, proc(15), promise(1, b(1, 2), nil)))
	for n := uint32(1); n < 4; n++ {
		s.Hear(5, proc(15), install(of(n, 15, 2), nil))
		isIn(t, "of a number that it has seen", s, 0)
	}
	s.Hear(5, proc(15), install(of(4, 9, 2, 15), nil))
	isIn(t, "in", s, 4, 9, 2, 15)
	told(t, "whom it suspected it still does", s.Tick(7), "9: Prepare v4 2/2", "15: Prepare v4 2/2")
}

// P1304: who is in a view with another life of its node is outside.
func TestP1304InstallOtherLife(t *testing.T) {
	s := made(t, 3, 1)
	v := of(2, 9, 2, 15)
	v.Members[1].Life = 2
	s.Hear(3, proc(9), install(v, nil))
	isIn(t, "another life is in", s, 0)
}

// wished are those whom the head of three proposes, if it does.
func wished(s *seat.Seat) string {
	l := s.Tick(2)
	m := l[len(l)-1].Msg
	if m.Kind != wire.Prepare {
		return ""
	}
	l = s.Hear(2, proc(0), promise(2, m.Ballot, nil))
	return showProcs(l[0].Msg.Members)
}

// P1304: a member that joins is told the view; somebody else is among those who join, in place of one of its node, and at most MaxView are.
func TestP1304Join(t *testing.T) {
	s := numbered(t, 2, 2, 7, 5, 0)
	submit(t, s, 3, 4)
	for _, p := range procs(5, 7, 0) {
		told(t, "a member", s.Hear(0, proc(3), joining(p)), showProcs([]ident.Proc{p})+": Install v2 7 5 0[1-2]")
	}
	for _, p := range []ident.Proc{proc(3), proc(9), proc(4), proc(9), {Node: 3, Life: 2}, {Node: 5, Life: 2}} {
		told(t, "somebody else", s.Hear(0, proc(2), joining(p)))
	}
	if got := wished(s); got != "7 5.2 0 3.2 9 4" {
		t.Errorf("those who join: %s", got)
	}
	full := numbered(t, 2, 0, 7, 5, 0)
	for _, n := range []uint8{1, 2, 3, 4, 6, 8, 9, 10, 11} { // the last one is one too many
		full.Hear(0, proc(n), joining(proc(n)))
	}
	full.Hear(0, proc(10), joining(ident.Proc{Node: 10, Life: 2}))
	full.Hear(1, proc(5), install(of(3, 7, 1, 2, 3, 4, 6, 8), nil))
	told(t, "there is no room for those who are left", full.Tick(3)[6:])
	full.Hear(4, proc(5), install(of(4, 7, 1, 2, 3, 4), nil))
	full.Tick(6)
	full.Hear(6, proc(1), promise(4, b(1, 7), nil))
	if l := full.Hear(6, proc(3), promise(4, b(1, 7), nil)); len(l) != 4 || showProcs(l[0].Msg.Members) != "7 1 2 3 4 9 10.2" {
		t.Errorf("those who join: %v", l)
	}
}

// P1304: a member that leaves is among those who leave; nobody else is, and nobody is twice.
func TestP1304Leave(t *testing.T) {
	s := numbered(t, 2, 0, 7, 5, 0)
	for _, p := range []ident.Proc{proc(3), {Node: 5, Life: 2}} {
		told(t, "no member", s.Hear(0, proc(5), leaving(p)))
	}
	if got := wished(s); got != "" {
		t.Errorf("nobody leaves, and it proposes %s", got)
	}
	for range 2 {
		told(t, "a member", s.Hear(0, proc(3), leaving(proc(5))))
	}
	if got := wished(s); got != "7 0" {
		t.Errorf("one leaves: %s", got)
	}
}

// P1304: who was suspected, or left, and is out by a view, is as any other one when it comes in again; so is one of whom that was told while it was out.
func TestP1304InAgain(t *testing.T) {
	s := numbered(t, 2, 0, 7, 5, 0, 9, 15)
	s.Suspect(proc(5))
	s.Hear(0, proc(0), leaving(proc(0)))
	s.Hear(5, proc(9), install(of(3, 7, 9, 15), nil))
	told(t, "they are out", s.Tick(100), "9: Append v3 0[] commit 0", "15: Append v3 0[] commit 0")
	s.Suspect(proc(5))
	s.Suspect(proc(3))
	s.Hear(100, proc(0), leaving(proc(0)))
	s.Hear(100, proc(4), leaving(proc(4)))
	s.Hear(100, proc(9), install(of(4, 7, 9, 5, 0, 3, 4), nil))
	if l := s.Tick(200); len(l) != 5 {
		t.Errorf("they are in again, and it tells %v", l)
	}
}
