package roll_test

import (
	"math/rand"
	"slices"
	"testing"

	"gemot/api"
	"gemot/entry"
	"gemot/ident"
	"gemot/roll"
)

// told is what is on its way: to a member what the head told it, or to the head how many one has.
type told struct {
	rank    int
	acked   bool
	from    int
	entries []entry.Entry
	commit  int
}

// group are a view's members. What is told is never gone from what is on its way, so that it may come late, often, or never.
type group struct {
	rnd     *rand.Rand
	members []ident.Proc
	rolls   []*roll.Roll
	way     []told
	next    int
	shut    []int // how many each had when it was shut; -1, if it is open
	most    int   // the most that anybody has committed
}

// gather is a group of n members, whose orders begin with base entries.
func gather(t *testing.T, rnd *rand.Rand, n, base int) *group {
	t.Helper()
	g := &group{rnd: rnd, members: members(n), next: base}
	for rank := range n {
		g.rolls = append(g.rolls, made(t, n, rank, base))
		g.shut = append(g.shut, -1)
	}
	return g
}

// tell lets the head tell a member what that one has not.
func (g *group) tell(rank int) {
	from, l := g.rolls[0].Since(g.members[rank], g.rnd.Intn(5)-1)
	g.way = append(g.way, told{rank: rank, from: from, entries: l, commit: g.rolls[0].Commit()})
}

// come lets something come that is on its way; what is taken, and now and then what is not, is acknowledged.
func (g *group) come() {
	x := g.way[g.rnd.Intn(len(g.way))]
	if x.acked {
		g.rolls[0].Acked(g.members[x.rank], x.from)
		return
	}
	r := g.rolls[x.rank]
	if r.Take(x.from, x.entries, x.commit) || g.rnd.Intn(4) == 0 {
		g.way = append(g.way, told{rank: x.rank, acked: true, from: r.Len()})
	}
}

// close shuts a member's order.
func (g *group) close(rank int) {
	g.rolls[rank].Shut()
	if g.shut[rank] < 0 {
		g.shut[rank] = g.rolls[rank].Len()
	}
}

// step does one thing that may be.
func (g *group) step(t *testing.T) {
	rank := g.rnd.Intn(len(g.members))
	switch k := g.rnd.Intn(12); {
	case k < 2:
		switch e := g.rolls[0].Add(call(g.next + 1)); {
		case e == api.OK:
			g.next++
		case e != api.ErrBlock || g.shut[0] < 0:
			t.Fatalf("Add is %d", e)
		}
	case k < 5:
		g.tell(rank) // the head tells itself, too: that is taken by nobody
	case k < 11 && len(g.way) > 0:
		g.come()
	case g.rnd.Intn(7) == 0:
		g.close(rank)
	}
}

// look holds the members against each other. The head's order are the calls from 1 on.
func (g *group) look(t *testing.T) {
	t.Helper()
	for rank, r := range g.rolls {
		n := r.Len()
		if n > g.next || r.Commit() > n || r.Base() > r.Commit() {
			t.Fatalf("the member %d has %d, committed %d; the head has %d", rank, n, r.Commit(), g.next)
		}
		if g.shut[rank] >= 0 && n != g.shut[rank] {
			t.Fatalf("the member %d is shut with %d, and has %d", rank, g.shut[rank], n)
		}
		g.most = max(g.most, r.Commit())
	}
	if least, shut := g.longest(); shut && least < g.most {
		t.Fatalf("%d are committed, and a majority has been shut with %d", g.most, least)
	}
}

// longest is the longest order of that majority of shut members that has the least, if so many are shut.
func (g *group) longest() (int, bool) {
	var l []int
	for _, n := range g.shut {
		if n >= 0 {
			l = append(l, n)
		}
	}
	slices.Sort(l)
	half := len(g.members) / 2
	if len(l) <= half {
		return 0, false
	}
	return l[half], true
}

// P1206: whatever is lost, doubled and late: all have beginnings of the head's order, and what a majority has kept has all that is committed.
func TestP1206NothingIsLost(t *testing.T) {
	rnd := rand.New(rand.NewSource(1206))
	shut, committed := 0, 0
	for round := range 1600 {
		g := gather(t, rnd, 1+round%api.MaxView, rnd.Intn(3))
		base := g.next
		for range 50 + 50*len(g.members) {
			g.step(t)
			g.look(t)
		}
		for _, r := range g.rolls {
			same(t, "a beginning of the head's", r.Log(), calls(1, r.Len()))
			same(t, "its tail", r.Tail(), calls(1+base, r.Len()-base))
		}
		if _, is := g.longest(); is && g.most > base {
			shut++
		}
		committed += g.most - base
	}
	if shut < 400 || committed < 4000 {
		t.Errorf("just %d rounds had a majority that was shut, and just %d entries were committed, so that little was tried", shut, committed)
	}
}

// P1206: what is told by a member that was shut ahead of it counts, as it does not change any more; what came behind it is not committed by that member.
func TestP1206ShutAhead(t *testing.T) {
	g := gather(t, nil, 3, 0)
	head, other := g.rolls[0], g.rolls[1]
	add(t, head, 1, 2)
	other.Take(0, head.Log(), 0)
	other.Shut()
	g.rolls[2].Shut()
	add(t, head, 3, 4)
	from, l := head.Since(g.members[1], 16)
	if !other.Take(from, l, head.Commit()) {
		t.Error("it hears the head")
	}
	head.Acked(g.members[1], other.Len())
	is(t, "the head", head, 4, 0, 2)
	is(t, "the one that was shut", other, 2, 0, 0)
	other.Take(from, l, head.Commit())
	is(t, "the one that was shut, and is told", other, 2, 0, 2)
	is(t, "the one that has nothing", g.rolls[2], 0, 0, 0)
}
