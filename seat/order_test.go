package seat_test

import (
	"math/rand"
	"slices"
	"testing"

	"gemot/api"
	"gemot/entry"
	"gemot/ident"
	"gemot/seat"
	"gemot/view"
	"gemot/wire"
)

// parcel is a message on its way.
type parcel struct {
	from, to ident.Proc
	msg      wire.Msg
}

// place is a process with its seat, and how many entries it has had committed.
type place struct {
	me     ident.Proc
	seat   *seat.Seat
	commit int
}

// group are processes with seats in one group, and what they have on its way to one another.
type group struct {
	t        *testing.T
	rnd      *rand.Rand
	founders []ident.Proc
	places   []*place // each node's, in its last life
	way      []parcel
	now      int
	next     int
	views    map[uint32]view.View
	order    []entry.Entry // all that anybody has committed
	rough    bool          // whether all may crash, and be wrongly suspected
}

// gather is a group of founders, and of spares behind them.
func gather(t *testing.T, rnd *rand.Rand, founders, spares int) *group {
	t.Helper()
	g := &group{t: t, rnd: rnd, founders: members(founders), views: map[uint32]view.View{}}
	for _, p := range append(members(founders), procs(3, 5, 6, 8)[:spares]...) {
		g.places = append(g.places, &place{me: p, seat: seat.New(1, p, g.founders)})
	}
	g.meet()
	return g
}

// meet lets all know all.
func (g *group) meet() {
	var l []ident.Proc
	for _, x := range g.places {
		l = append(l, x.me)
	}
	for _, x := range g.places {
		x.seat.Meet(l)
	}
}

// at is the place of a process that is in that life.
func (g *group) at(p ident.Proc) *place {
	for _, x := range g.places {
		if x.me == p {
			return x
		}
	}
	return nil
}

// send lays what somebody tells on the way.
func (g *group) send(x *place, out []seat.Out) {
	for _, o := range out {
		if !o.Msg.Right() || o.To == x.me {
			g.t.Fatalf("%v tells %v: %s", x.me, o.To, showMsg(o.Msg))
		}
		g.way = append(g.way, parcel{from: x.me, to: o.To, msg: o.Msg})
	}
	g.look(x)
}

// look holds what a place shows against what all the others have shown.
func (g *group) look(x *place) {
	g.t.Helper()
	if v := x.seat.View(); x.seat.In() {
		if known, has := g.views[v.N]; has && !view.Same(known, v) {
			g.t.Fatalf("%v is in %s, others are in %s", x.me, view.Show(v), view.Show(known))
		}
		g.views[v.N] = v
	}
	n := x.seat.Commit()
	log := x.seat.Log()
	if n < x.commit || n > len(log) {
		g.t.Fatalf("%v has committed %d of %d, and before that %d", x.me, n, len(log), x.commit)
	}
	x.commit = n
	both := min(n, len(g.order))
	if !entry.SameAll(log[:both], g.order[:both]) {
		g.t.Fatalf("%v has committed %s, others %s", x.me, showEntries(log[:n]), showEntries(g.order))
	}
	g.order = append(g.order, log[both:n]...)
}

// come lets a message come that is on its way; now and then it stays there, to come once more.
func (g *group) come(i int, stays bool) {
	p := g.way[i]
	if !stays {
		g.way = slices.Delete(g.way, i, i+1)
	}
	if x := g.at(p.to); x != nil {
		g.send(x, x.seat.Hear(g.now, p.from, p.msg))
	}
}

// submit lets a place put one more entry into the order, if it leads.
func (g *group) submit(x *place) {
	e := x.seat.Submit(call(g.next + 1))
	if e == api.OK {
		g.next++
	}
	if (e == api.OK) != x.seat.Leads() && e != api.ErrFull {
		g.t.Fatalf("%v leads: %v, and Submit is %d", x.me, x.seat.Leads(), e)
	}
	g.look(x)
}

// restart lets a node go on in its next life, which has nothing of the one ahead of it.
func (g *group) restart(x *place) {
	x.me.Life++
	x.seat, x.commit = seat.New(1, x.me, g.founders), 0
	g.meet()
	x.seat.Join()
}

// disturb does what changes the members.
func (g *group) disturb(x *place) {
	y := g.places[g.rnd.Intn(len(g.places))]
	switch k := g.rnd.Intn(16); {
	case k < 3:
		x.seat.Suspect(y.me)
	case k < 10:
		x.seat.Join()
	case k < 11:
		x.seat.Leave()
	case k < 12 && g.rough:
		g.restart(x)
	}
}

// step does one thing that may be.
func (g *group) step() {
	x := g.places[g.rnd.Intn(len(g.places))]
	switch k := g.rnd.Intn(100); {
	case k < 12:
		g.now += g.rnd.Intn(4)
		g.send(x, x.seat.Tick(g.now))
	case k < 16:
		g.submit(x)
	case k < 18:
		g.disturb(x)
	case len(g.way) == 0:
	case k < 24 || len(g.way) > 150:
		i := g.rnd.Intn(len(g.way))
		g.way = slices.Delete(g.way, i, i+1)
	default:
		g.come(g.rnd.Intn(len(g.way)), g.rnd.Intn(4) == 0)
	}
}

// round lets all who are not silent tick, and then what is on its way come, as it was sent.
func (g *group) round(silent ...ident.Proc) {
	g.now++
	heard := func(p ident.Proc) bool { return !slices.Contains(silent, p) }
	for _, x := range g.places {
		if heard(x.me) {
			g.send(x, x.seat.Tick(g.now))
		}
	}
	for n := 0; len(g.way) > 0 && n < 400; n++ {
		if heard(g.way[0].from) && heard(g.way[0].to) {
			g.come(0, false)
		} else {
			g.way = g.way[1:]
		}
	}
}

// P1306: whatever is lost, doubled and late, whoever is suspected, leaves, joins or is silent: one view of a number, and one order.
func TestP1306OneOrder(t *testing.T) {
	rnd := rand.New(rand.NewSource(1306))
	views, committed := 0, 0
	for round := range 2000 {
		g := gather(t, rnd, 1+round%6, rnd.Intn(5))
		g.rough = round%3 == 0
		for n := range 800 {
			if n%100 == 99 && rnd.Intn(2) == 0 {
				g.round(g.places[rnd.Intn(len(g.places))].me)
			}
			g.step()
		}
		views += len(g.views)
		committed += len(g.order)
	}
	if views < 4000 || committed < 8000 {
		t.Errorf("just %d views, and just %d entries were committed, so that little was tried", views, committed)
	}
}

// all fails, unless the members of a view of these nodes are in it, and have this order committed.
func (g *group) all(what string, order string, n uint32, nodes ...uint8) {
	g.t.Helper()
	for _, p := range procs(nodes...) {
		x := g.at(p)
		isIn(g.t, what, x.seat, n, nodes...)
		if got := showEntries(x.seat.Log()[:x.seat.Commit()]); got != order {
			g.t.Errorf("%s: %v has committed %s, not %s", what, x.me, got, order)
		}
	}
}

// The chapter's example: a group of three, whose head submits one.
func TestP1306Example(t *testing.T) {
	g := gather(t, nil, 3, 0)
	g.submit(g.places[0])
	g.round()
	has(t, "the head", g.places[0].seat, "[1]", 1)
	has(t, "another one", g.places[1].seat, "[1]", 0)
	g.round()
	g.all("behind the next tick", "[1]", 1, 9, 2, 15)
}

// P1306: one that is silent, and suspected by the others, is left out, the head or another one; what others had of its order is not lost, and it is told so when it is heard again.
func TestP1306Silent(t *testing.T) {
	for n := 3; n <= api.MaxView; n++ {
		for rank := range n {
			g := gather(t, nil, n, 0)
			for range 20 {
				g.submit(g.places[0])
			}
			g.round() // 16 entries have come to all
			silent := g.places[rank]
			rest := slices.Delete(slices.Clone(nodes[:n]), rank, rank+1)
			for _, x := range g.places {
				x.seat.Suspect(silent.me)
			}
			for range 5 {
				g.round(silent.me)
			}
			order := "[1-20]"
			if rank == 0 {
				order = "[1-16]" // it alone had the others
			}
			g.all("without the silent one", order, 2, rest...)
			isIn(t, "the silent one", silent.seat, 1, nodes[:n]...)
			if rank > 0 {
				continue // it tells nothing that would be answered
			}
			g.round()
			isIn(t, "the elder head, heard again", silent.seat, 0)
		}
	}
}

// P1306: when a majority is silent, nothing more is committed, and there is no other view.
func TestP1306MajoritySilent(t *testing.T) {
	g := gather(t, nil, 3, 1)
	g.submit(g.places[0])
	g.round()
	g.round()
	g.submit(g.places[0])
	for _, p := range members(3)[1:] {
		g.places[0].seat.Suspect(p)
	}
	for range 100 {
		g.round(members(3)[1:]...)
	}
	isIn(t, "the others are silent", g.places[0].seat, 1, 9, 2, 15)
	has(t, "the others are silent", g.places[0].seat, "[1-2]", 1)
	if len(g.order) != 1 || len(g.views) != 1 {
		t.Errorf("%d are committed, in %d views", len(g.order), len(g.views))
	}
}

// P1306: a spare that joins has the whole order; who leaves is out; a node comes back in its next life.
func TestP1306JoinAndLeave(t *testing.T) {
	g := gather(t, nil, 2, 1)
	for range 40 {
		g.submit(g.places[0])
	}
	for range 5 {
		g.round()
	}
	g.places[2].seat.Join()
	for range 5 {
		g.round()
	}
	g.all("a spare has joined", "[1-40]", 2, 9, 2, 3)
	g.places[0].seat.Leave()
	for range 5 {
		g.round()
	}
	isIn(t, "the head has left", g.places[0].seat, 0)
	g.all("the head has left", "[1-40]", 3, 2, 3)
	g.submit(g.places[1])
	g.restart(g.places[0])
	for range 5 {
		g.round()
	}
	v := g.places[0].seat.View()
	if v.N != 4 || showProcs(v.Members) != "2 3 9.2" {
		t.Errorf("it has come back in %s", view.Show(v))
	}
	for range 3 {
		g.round()
	}
	has(t, "it has come back", g.places[0].seat, "[1-41]", 41)
}

// P1306: a proposer that is silent as soon as it has begun holds nobody up for good, even if nobody is suspected.
func TestP1306ProposerSilent(t *testing.T) {
	g := gather(t, nil, 3, 0)
	g.submit(g.places[0])
	g.round()
	g.places[1].seat.Suspect(proc(9))
	for g.places[0].seat.Leads() { // till it has promised
		g.round()
		if g.now > 10 {
			t.Fatal("nothing is begun")
		}
	}
	for range 60 {
		g.round()
	}
	if len(g.views) < 2 || len(g.order) != 1 {
		t.Errorf("%d are committed, in %d views", len(g.order), len(g.views))
	}
}
