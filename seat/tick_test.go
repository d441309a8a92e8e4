package seat_test

import (
	"math"
	"testing"

	"gemot/api"
	"gemot/ident"
	"gemot/seat"
	"gemot/wire"
)

// numbered is the seat of the head of a view of a number, with the members of these nodes and an order of so many entries; it may propose from 2 on.
func numbered(t *testing.T, n uint32, base int, nodes ...uint8) *seat.Seat {
	t.Helper()
	s := outside(t, nodes[0])
	s.Hear(0, proc(3), install(of(n, nodes...), calls(1, base)))
	isIn(t, "numbered", s, n, nodes...)
	return s
}

// P1303: the head tells each other member what that one has not, at most 16, and what is committed, again and again.
func TestP1303Append(t *testing.T) {
	s := made(t, 3, 0)
	submit(t, s, 1, 40)
	for range 2 {
		told(t, "none is acknowledged", s.Tick(0), "2: Append v1 0[1-16] commit 0", "15: Append v1 0[1-16] commit 0")
	}
	s.Hear(0, proc(15), acked(1, 16))
	told(t, "some are", s.Tick(0), "2: Append v1 0[1-16] commit 16", "15: Append v1 16[17-32] commit 16")
	s.Hear(0, proc(15), acked(1, 30))
	s.Hear(0, proc(2), acked(1, 32))
	told(t, "more are", s.Tick(0), "2: Append v1 32[33-40] commit 32", "15: Append v1 30[31-40] commit 32")
	s.Hear(0, proc(15), acked(1, 40))
	told(t, "all are", s.Tick(0), "2: Append v1 32[33-40] commit 40", "15: Append v1 40[] commit 40")
	for rank := 1; rank < 3; rank++ {
		told(t, "elsewhere than at the head", made(t, 3, rank).Tick(0))
	}
	told(t, "one alone", made(t, 1, 0).Tick(100))
}

// P1303: the head tells its order in a view with a base, and when it is shut, too.
func TestP1303AppendShut(t *testing.T) {
	s := numbered(t, 5, 3, 7, 9)
	submit(t, s, 4, 5)
	told(t, "with a base", s.Tick(1), "9: Append v5 3[4-5] commit 3")
	s.Hear(1, proc(9), balloted(wire.Prepare, 5, b(1, 9)))
	told(t, "shut", s.Tick(1), "9: Append v5 3[4-5] commit 3")
	s.Hear(1, proc(9), acked(5, 5))
	told(t, "shut, and all is acknowledged", s.Tick(1), "9: Append v5 5[] commit 5")
}

// P1303: who leaves tells so to all others; what else is told comes behind it.
func TestP1303LeaveFirst(t *testing.T) {
	s := made(t, 3, 0)
	s.Leave()
	s.Hear(0, proc(2), balloted(wire.Prepare, 1, b(1, 2)))
	order := []string{"2: Leave 9", "15: Leave 9", "2: Append v1 0[] commit 0", "15: Append v1 0[] commit 0"}
	told(t, "it waits", s.Tick(11), order...)
	asks := append(order, "2: Prepare v1 2/9", "15: Prepare v1 2/9")
	told(t, "it begins", s.Tick(12), asks...)
	told(t, "it has begun", s.Tick(12), asks...)
	other := made(t, 3, 2)
	other.Hear(0, proc(9), leaving(proc(15)))
	told(t, "somebody told that it leaves", other.Tick(0), "9: Leave 15", "2: Leave 15")
	head := made(t, 3, 0)
	head.Hear(0, proc(9), leaving(proc(15)))
	told(t, "another one leaves", head.Tick(0), "2: Append v1 0[] commit 0", "15: Append v1 0[] commit 0")
}

// P1303: a proposer asks those that are missing, again and again: to promise, then to accept.
func TestP1303Asking(t *testing.T) {
	s := made(t, 5, 1)
	s.Suspect(proc(9))
	told(t, "it begins", s.Tick(2), "9: Prepare v1 1/2", "15: Prepare v1 1/2", "0: Prepare v1 1/2", "7: Prepare v1 1/2")
	s.Hear(3, proc(0), promise(1, b(1, 2), nil))
	told(t, "one has promised", s.Tick(3), "9: Prepare v1 1/2", "15: Prepare v1 1/2", "7: Prepare v1 1/2")
	told(t, "two have", s.Hear(3, proc(7), promise(1, b(1, 2), nil)),
		"9: Propose v1 1/2 2 15 0 7[]", "15: Propose v1 1/2 2 15 0 7[]", "0: Propose v1 1/2 2 15 0 7[]", "7: Propose v1 1/2 2 15 0 7[]")
	told(t, "one accepts", s.Hear(4, proc(7), balloted(wire.Accept, 1, b(1, 2))))
	told(t, "one has accepted", s.Tick(400),
		"9: Propose v1 1/2 2 15 0 7[]", "15: Propose v1 1/2 2 15 0 7[]", "0: Propose v1 1/2 2 15 0 7[]")
	told(t, "two have", s.Hear(400, proc(9), balloted(wire.Accept, 1, b(1, 2))),
		"9: Install v2 2 15 0 7[]", "15: Install v2 2 15 0 7[]", "0: Install v2 2 15 0 7[]", "7: Install v2 2 15 0 7[]")
	isIn(t, "decided", s, 2, 2, 15, 0, 7)
	told(t, "the head of it", s.Tick(500), "15: Append v2 0[] commit 0", "0: Append v2 0[] commit 0", "7: Append v2 0[] commit 0")
}

// prepares tells whether a seat, that is no head and leaves not, begins at a time.
func prepares(s *seat.Seat, now int) bool {
	l := s.Tick(now)
	return len(l) > 0 && l[0].Msg.Kind == wire.Prepare
}

// P1303: it begins if the wish is not the members, and it is the first one that is neither suspected nor leaves.
func TestP1303WhoBegins(t *testing.T) {
	cases := []struct {
		name             string
		rank             int
		suspects, leaves []uint8
		joins            []uint8
		begins           bool
	}{
		{"nothing is up", 1, nil, nil, nil, false},
		{"the first one is suspected", 1, []uint8{9}, nil, nil, true},
		{"the first one leaves", 1, nil, []uint8{9}, nil, true},
		{"the first one leaves, too", 2, []uint8{2}, []uint8{9}, nil, true},
		{"the first one leaves, and another one, too", 2, []uint8{15}, []uint8{9}, nil, false},
		{"another one is suspected", 1, []uint8{15}, nil, nil, false},
		{"another one leaves", 1, nil, []uint8{7}, nil, false},
		{"somebody joins", 1, nil, nil, []uint8{5}, false},
		{"somebody joins, and the first one is suspected", 1, []uint8{9}, nil, []uint8{5}, true},
		{"the first two are suspected", 2, []uint8{9, 2}, nil, nil, true},
		{"the first two are suspected, and it is the fourth one", 3, []uint8{9, 2}, nil, nil, false},
		{"the first two leave", 2, nil, []uint8{9, 2}, nil, true},
		{"too many are suspected", 3, []uint8{9, 2, 15}, nil, nil, false},
		{"too many are suspected, and somebody joins", 3, []uint8{9, 2, 15}, nil, []uint8{5}, true},
		{"it leaves itself", 1, []uint8{9}, []uint8{2}, nil, false},
		{"all leave", 1, nil, []uint8{9, 2, 15, 0, 7}, []uint8{5}, false},
	}
	for _, c := range cases {
		s := made(t, 5, c.rank)
		for _, n := range c.suspects {
			s.Suspect(proc(n))
		}
		for _, n := range c.leaves {
			s.Hear(0, proc(n), leaving(proc(n)))
		}
		for _, n := range c.joins {
			s.Hear(0, proc(n), joining(proc(n)))
		}
		begins := false
		for _, o := range s.Tick(2) {
			begins = begins || o.Msg.Kind == wire.Prepare
		}
		if begins != c.begins {
			t.Errorf("%s: it begins: %v", c.name, begins)
		}
	}
}

// P1303: it begins not ahead of Try, which is 2 behind an adoption.
func TestP1303TryAfterView(t *testing.T) {
	for _, at := range []int{0, 1, 57, -1000, 1 << 61, -(1 << 61)} {
		s := outside(t, 7)
		s.Hear(at, proc(9), install(of(4, 9, 7, 2), nil))
		s.Suspect(proc(9))
		for _, now := range []int{math.MinInt, at - 100, at - 1, at, at + 1} {
			if prepares(s, now) {
				t.Errorf("adopted at %d, it begins at %d", at, now)
			}
		}
		if !prepares(s, at+2) {
			t.Errorf("adopted at %d, it does not begin 2 behind it", at)
		}
	}
}

// P1303: a member that was shut begins 12, and 6 for each rank, behind that, whatever the wish.
func TestP1303Stuck(t *testing.T) {
	for n := 2; n <= api.MaxView; n++ {
		for rank := 1; rank < n; rank++ {
			for _, at := range []int{0, 31, -400, -(1 << 62) + 1, 1 << 61} {
				s := made(t, n, rank)
				s.Hear(-(1 << 62), proc(9), install(of(2, nodes[:n]...), nil)) // from then on it may begin
				told(t, "shut", s.Hear(at, proc(9), balloted(wire.Prepare, 2, b(4, 9))), "9: Promise v2 4/9 []")
				s.Hear(at+1, proc(9), balloted(wire.Prepare, 2, b(5, 9))) // it was shut ahead of this
				s.Hear(at+2, proc(9), propose(2, b(5, 9), members(2), nil))
				last := at + 11 + 6*rank
				for _, now := range []int{math.MinInt, at - 100, at, at + 2, last} {
					if prepares(s, now) {
						t.Errorf("the member %d of %d, shut at %d, begins at %d", rank, n, at, now)
					}
				}
				if l := s.Tick(last + 1); len(l) != n-1 || l[0].Msg.Ballot != b(6, nodes[rank]) {
					t.Errorf("the member %d of %d, shut at %d, does not begin at %d: %v", rank, n, at, last+1, l)
				}
			}
		}
	}
	head := made(t, 2, 0)
	head.Hear(50, proc(2), balloted(wire.Prepare, 1, b(1, 2)))
	told(t, "the head", head.Tick(61), "2: Append v1 0[] commit 0")
	told(t, "the head, 12 behind", head.Tick(62), "2: Append v1 0[] commit 0", "2: Prepare v1 2/9")
}

// P1303: long ago is long ago, as far as times go.
func TestP1303StuckFar(t *testing.T) {
	s := made(t, 2, 1)
	s.Hear(math.MinInt, proc(9), balloted(wire.Prepare, 1, b(1, 9)))
	if !prepares(s, math.MaxInt) {
		t.Error("it was shut long ago")
	}
	o := made(t, 2, 1)
	o.Hear(math.MaxInt, proc(9), balloted(wire.Prepare, 1, b(1, 9)))
	if prepares(o, math.MaxInt) {
		t.Error("it was shut just now")
	}
	late := outside(t, 7)
	late.Hear(math.MaxInt, proc(9), install(of(4, 9, 7, 2), nil))
	late.Suspect(proc(9))
	if prepares(late, math.MinInt) || prepares(late, math.MaxInt-1) {
		t.Error("its view is just begun")
	}
}

// P1303: a begin is of a round above all that it met, and 10 behind it the next one may be.
func TestP1303Rounds(t *testing.T) {
	s := made(t, 3, 1)
	s.Suspect(proc(9))
	told(t, "the first one", s.Tick(2), "9: Prepare v1 1/2", "15: Prepare v1 1/2")
	s.Hear(5, proc(15), balloted(wire.Nack, 1, b(7, 15)))
	told(t, "refused", s.Tick(14))
	told(t, "the next one", s.Tick(15), "9: Prepare v1 8/2", "15: Prepare v1 8/2")
	s.Hear(20, proc(9), install(of(2, 2, 9, 15), nil))
	told(t, "rounds go on in the next view", s.Tick(22), "9: Append v2 0[] commit 0", "15: Append v2 0[] commit 0", "9: Prepare v2 9/2", "15: Prepare v2 9/2")
}

// P1303: nothing is begun in the last round, nor in the last view.
func TestP1303Last(t *testing.T) {
	s := made(t, 3, 1)
	s.Suspect(proc(9))
	s.Hear(0, proc(15), balloted(wire.Nack, 1, b(math.MaxUint32-1, 15)))
	told(t, "the last round", s.Tick(2), "9: Prepare v1 4294967295/2", "15: Prepare v1 4294967295/2")
	s.Hear(2, proc(15), balloted(wire.Nack, 1, b(math.MaxUint32, 15)))
	for _, now := range []int{12, 13, 1000} {
		told(t, "behind the last round", s.Tick(now))
	}
	for _, now := range []int{2, 100} {
		v := numbered(t, math.MaxUint32, 0, 7, 0)
		v.Hear(0, proc(0), joining(proc(5)))
		v.Hear(0, proc(0), balloted(wire.Prepare, math.MaxUint32, b(1, 0)))
		told(t, "the last view", v.Tick(now), "0: Append v4294967295 0[] commit 0")
	}
	v := numbered(t, math.MaxUint32-1, 1, 7)
	v.Hear(0, proc(0), joining(proc(5)))
	told(t, "the last view but one", v.Tick(2), "5: Install v4294967295 7 5[1]")
}

// P1303: its own promise shuts the order, and counts with its tail.
func TestP1303OwnPromise(t *testing.T) {
	s := made(t, 3, 0)
	submit(t, s, 1, 3)
	s.Hear(0, proc(2), acked(1, 2))
	s.Suspect(proc(15))
	s.Tick(2)
	if s.Leads() || s.Submit(call(4)) != api.ErrBlock {
		t.Error("its order is open")
	}
	told(t, "a promise of less", s.Hear(3, proc(2), promise(1, b(1, 9), calls(1, 2))),
		"2: Propose v1 1/9 9 2[1-3]", "15: Propose v1 1/9 9 2[1-3]")
	told(t, "accepted", s.Hear(3, proc(2), balloted(wire.Accept, 1, b(1, 9))),
		"2: Install v2 9 2[1-3]", "15: Install v2 9 2[1-3]")
	has(t, "decided", s, "[1-3]", 3)
	submit(t, s, 4, 4)
}

// P1303: its own promise tells what it holds, from a ballot that it accepted.
func TestP1303OwnHeld(t *testing.T) {
	s := made(t, 3, 1)
	s.Hear(0, proc(15), propose(1, b(3, 15), procs(15, 2, 7), calls(1, 2)))
	s.Suspect(proc(9))
	told(t, "it begins", s.Tick(2), "9: Prepare v1 4/2", "15: Prepare v1 4/2")
	told(t, "promised", s.Hear(2, proc(9), promise(1, b(4, 2), calls(1, 5))),
		"9: Propose v1 4/2 15 2 7[1-2]", "15: Propose v1 4/2 15 2 7[1-2]")
	told(t, "accepted", s.Hear(2, proc(9), balloted(wire.Accept, 1, b(4, 2))),
		"9: Install v2 15 2 7[1-2]", "15: Install v2 15 2 7[1-2]", "7: Install v2 15 2 7[1-2]")
	isIn(t, "decided", s, 2, 15, 2, 7)
	has(t, "decided", s, "[1-2]", 2)
}

// P1303: it has accepted what it proposes itself, and so tells who asks it to promise then.
func TestP1303OwnAccepted(t *testing.T) {
	s := made(t, 3, 1)
	s.Suspect(proc(9))
	s.Tick(2)
	s.Hear(3, proc(15), promise(1, b(1, 2), calls(1, 1)))
	told(t, "another one", s.Hear(4, proc(15), balloted(wire.Prepare, 1, b(2, 15))), "15: Promise v1 2/15 [] held 1/2 2 15[1]")
}

// P1303: where its acceptor has promised more than any round can be, its own promise and acceptance do not count, and the others' do.
func TestP1303NoOwnPromise(t *testing.T) {
	s := made(t, 3, 1)
	s.Suspect(proc(9))
	s.Hear(0, proc(15), balloted(wire.Prepare, 1, 1<<60|15))
	told(t, "it begins", s.Tick(2), "9: Prepare v1 1/2", "15: Prepare v1 1/2")
	told(t, "one promises", s.Hear(2, proc(15), promise(1, b(1, 2), nil)))
	told(t, "two promise", s.Hear(2, proc(9), promise(1, b(1, 2), calls(1, 1))), "9: Propose v1 1/2 2 15[1]", "15: Propose v1 1/2 2 15[1]")
	told(t, "one accepts", s.Hear(2, proc(15), balloted(wire.Accept, 1, b(1, 2))))
	told(t, "two accept", s.Hear(2, proc(9), balloted(wire.Accept, 1, b(1, 2))), "9: Install v2 2 15[1]", "15: Install v2 2 15[1]")
}

// P1303: one alone decides at once.
func TestP1303Alone(t *testing.T) {
	s := numbered(t, 3, 2, 7)
	submit(t, s, 3, 4)
	s.Hear(0, proc(5), joining(proc(5)))
	s.Hear(0, proc(0), joining(proc(0)))
	told(t, "it waits", s.Tick(1))
	told(t, "it decides", s.Tick(2), "5: Install v4 7 5 0[1-4]", "0: Install v4 7 5 0[1-4]")
	isIn(t, "decided", s, 4, 7, 5, 0)
	has(t, "decided", s, "[1-4]", 4)
	told(t, "behind it", s.Tick(3), "5: Append v4 4[] commit 4", "0: Append v4 4[] commit 4")
	other := numbered(t, 3, 0, 7)
	other.Leave()
	told(t, "one alone can't leave", other.Tick(100))
}

// decide lets the head of three, with the nodes 7, 5, 0, go through an agreement in which 0 takes part.
func decide(t *testing.T, s *seat.Seat) []seat.Out {
	t.Helper()
	s.Tick(2)
	s.Hear(2, proc(0), promise(2, b(1, 7), nil))
	return s.Hear(2, proc(0), balloted(wire.Accept, 2, b(1, 7)))
}

// P1303: the wish, with those that go and come.
func TestP1303Wish(t *testing.T) {
	life2 := ident.Proc{Node: 5, Life: 2}
	cases := []struct {
		name             string
		suspects, leaves []ident.Proc
		joins            []ident.Proc
		want             string
	}{
		{"one is suspected", procs(5), nil, nil, "7 0"},
		{"one leaves", nil, procs(0), nil, "7 5"},
		{"one joins", nil, nil, procs(3), "7 5 0 3"},
		{"several join, as they were heard of", nil, nil, procs(9, 3, 4), "7 5 0 9 3 4"},
		{"one goes, one comes", procs(5), nil, procs(3), "7 0 3"},
		{"one leaves, one comes", nil, procs(5), procs(3), "7 0 3"},
		{"a member's next life joins", nil, nil, []ident.Proc{life2}, "7 5.2 0"},
		{"a suspected member's next life joins", procs(5), nil, []ident.Proc{life2}, "7 0 5.2"},
		{"too few stay: those who join alone", procs(5), procs(0), procs(3), "7 5 0 3"},
		{"one goes and leaves", procs(5), procs(5), nil, "7 0"},
		{"five join", nil, nil, procs(1, 2, 3, 4, 6), "7 5 0 1 2 3 4 6"},
		{"six join, one leaves", nil, procs(5), procs(1, 2, 3, 4, 6, 8), "7 0 1 2 3 4 6 8"},
	}
	for _, c := range cases {
		s := numbered(t, 2, 0, 7, 5, 0)
		for _, p := range c.suspects {
			s.Suspect(p)
		}
		for _, p := range c.leaves {
			s.Hear(0, p, leaving(p))
		}
		for _, p := range c.joins {
			s.Hear(0, p, joining(p))
		}
		decide(t, s)
		if v := s.View(); v.N != 3 || showProcs(v.Members) != c.want {
			t.Errorf("%s: v%d %s, not %s", c.name, v.N, showProcs(v.Members), c.want)
		}
	}
}

// P1303: where there is no other wish, nothing is begun; who was shut wishes the same members.
func TestP1303SameWish(t *testing.T) {
	s := numbered(t, 2, 0, 7, 5, 0)
	for _, n := range []uint8{1, 2, 3, 4, 6, 8} { // too many with those who are in
		s.Hear(0, proc(n), joining(proc(n)))
	}
	told(t, "too many join", s.Tick(2), "5: Append v2 0[] commit 0", "0: Append v2 0[] commit 0")
	s.Suspect(proc(5))
	s.Suspect(proc(0)) // too few stay, and too many join
	told(t, "too few stay", s.Tick(2), "5: Append v2 0[] commit 0", "0: Append v2 0[] commit 0")
	s.Hear(2, proc(0), balloted(wire.Prepare, 2, b(1, 0)))
	s.Tick(14)
	told(t, "promised", s.Hear(14, proc(0), promise(2, b(2, 7), nil)), "5: Propose v2 2/7 7 5 0[]", "0: Propose v2 2/7 7 5 0[]")
	s.Hear(14, proc(0), balloted(wire.Accept, 2, b(2, 7)))
	isIn(t, "decided", s, 3, 7, 5, 0)
}

// P1303: what it wishes is what it wishes when it proposes.
func TestP1303WishOfNow(t *testing.T) {
	s := numbered(t, 2, 0, 7, 5, 0)
	s.Hear(0, proc(3), joining(proc(3)))
	s.Tick(2)
	s.Hear(2, proc(4), joining(proc(4)))
	s.Suspect(proc(5))
	told(t, "promised", s.Hear(2, proc(0), promise(2, b(1, 7), nil)), "5: Propose v2 1/7 7 0 3 4[]", "0: Propose v2 1/7 7 0 3 4[]")
	s.Hear(2, proc(6), joining(proc(6)))
	told(t, "proposed already", s.Tick(2), append(appends(), "5: Propose v2 1/7 7 0 3 4[]", "0: Propose v2 1/7 7 0 3 4[]")...)
	s.Hear(2, proc(0), balloted(wire.Accept, 2, b(1, 7)))
	isIn(t, "decided", s, 3, 7, 0, 3, 4)
	told(t, "who is not in yet is in next", s.Tick(4),
		"0: Append v3 0[] commit 0", "3: Append v3 0[] commit 0", "4: Append v3 0[] commit 0",
		"0: Prepare v3 2/7", "3: Prepare v3 2/7", "4: Prepare v3 2/7")
}

// appends is what the head of three tells of an order without entries.
func appends() []string {
	return []string{"5: Append v2 0[] commit 0", "0: Append v2 0[] commit 0"}
}

// P1303: those of the old view are told first, then those who are new; a proposer that is not in it is outside.
func TestP1303Install(t *testing.T) {
	s := numbered(t, 2, 2, 7, 5, 0)
	submit(t, s, 3, 4)
	s.Suspect(proc(5))
	s.Hear(0, proc(12), joining(proc(12)))
	s.Hear(0, proc(1), joining(proc(1)))
	told(t, "decided", decide(t, s), "5: Install v3 7 0 12 1[1-4]", "0: Install v3 7 0 12 1[1-4]", "12: Install v3 7 0 12 1[1-4]", "1: Install v3 7 0 12 1[1-4]")
	out := numbered(t, 2, 1, 7, 5, 0)
	out.Hear(0, proc(0), propose(2, b(1, 0), procs(0, 8), calls(2, 3)))
	out.Tick(30)
	told(t, "a value that somebody held", out.Hear(30, proc(5), promise(2, b(2, 7), nil)),
		"5: Propose v2 2/7 0 8[2-4]", "0: Propose v2 2/7 0 8[2-4]")
	told(t, "decided", out.Hear(30, proc(5), balloted(wire.Accept, 2, b(2, 7))),
		"5: Install v3 0 8[1-4]", "0: Install v3 0 8[1-4]", "8: Install v3 0 8[1-4]")
	isIn(t, "it is out", out, 0)
	has(t, "it is out", out, "[1]", 1)
	told(t, "it is out", out.Tick(100))
	out.Hear(101, proc(0), install(of(3, 0, 7), nil))
	isIn(t, "it has seen that view", out, 0)
}
