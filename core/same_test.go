package core_test

import (
	"math/rand"
	"slices"
	"testing"

	"gemot/amo"
	"gemot/api"
	"gemot/core"
	"gemot/entry"
	"gemot/ident"
	"gemot/part"
	"gemot/store"
)

// anyPart is a part of few keys and numbers, so that many are at the same key.
func anyPart(rnd *rand.Rand) part.Part {
	key := string(rune('a' + rnd.Intn(3)))
	switch rnd.Intn(8) {
	case 0:
		return read(key)
	case 1:
		return write(key, []string{"x", "7"}[rnd.Intn(2)])
	case 2:
		return erase(key)
	case 3, 4:
		return take(key, int64(rnd.Intn(6)))
	}
	return add(key, int64(rnd.Intn(6)))
}

// anyProc is one of few processes.
func anyProc(rnd *rand.Rand) ident.Proc {
	return ident.Proc{Node: uint8(rnd.Intn(4)), Life: uint16(1 + rnd.Intn(3))}
}

// anyID is one of few calls, or of their children.
func anyID(rnd *rand.Rand, upto int) ident.ID {
	d := id(anyProc(rnd), uint32(1+rnd.Intn(upto)))
	for range []int{0, 0, 0, 1, 2, 3}[rnd.Intn(6)] {
		d, _ = ident.Child(d, []uint8{1, group, group}[rnd.Intn(3)], uint8(rnd.Intn(8)/7))
	}
	return d
}

// anyEntry is an entry as it may stand in an order; now and then one that is not right. What waits comes back often.
func anyEntry(rnd *rand.Rand, c *core.Core, step int) entry.Entry {
	upto := 4 + step/20
	res := part.Res{Code: []uint8{part.Done, part.Done, part.Poor, part.Odd, part.Dead, part.Undone, part.Full}[rnd.Intn(7)], Value: "r"}
	switch rnd.Intn(40) {
	case 0:
		return kill(anyProc(rnd))
	case 1, 2:
		return back(anyID(rnd, upto), res.Code, res.Value)
	case 3:
		return call(anyID(rnd, upto))
	case 4, 5, 6, 7, 8, 9, 10, 11:
		if l := c.Pending(); len(l) > 0 {
			return back(l[rnd.Intn(len(l))].ID, res.Code, res.Value)
		}
	}
	d := anyID(rnd, upto)
	e := floored(d, uint32(rnd.Intn(int(d.Seq))), anyPart(rnd))
	for range rnd.Intn(3) {
		e.Parts = append(e.Parts, in(uint8(rnd.Intn(api.MaxGroups)), anyPart(rnd)))
	}
	return e
}

// waiting is what a model has of a call that waits.
type waiting struct {
	e   entry.Entry
	res part.Res
	old store.Write
}

// model is a core as the chapter tells it, without tables: of each call all that was ever done is there, and nothing is forgotten.
type model struct {
	window uint32
	keys   *store.Store
	begun  map[ident.ID]bool
	res    map[ident.ID]part.Res
	ends   map[ident.ID]bool
	floors map[ident.Proc]uint32
	waits  map[ident.ID]waiting
	asked  map[ident.ID]core.Act
	killed []ident.Proc
}

func newModel(window int) *model {
	return &model{
		window: uint32(window), keys: store.New(),
		begun: map[ident.ID]bool{}, res: map[ident.ID]part.Res{}, ends: map[ident.ID]bool{},
		floors: map[ident.Proc]uint32{}, waits: map[ident.ID]waiting{}, asked: map[ident.ID]core.Act{},
	}
}

func (m *model) dead(p ident.Proc) bool {
	return slices.ContainsFunc(m.killed, func(v ident.Proc) bool { return v.Node == p.Node && p.Life <= v.Life })
}

func (m *model) end(d ident.ID, r part.Res) []core.Act {
	m.ends[d], m.res[d] = true, r
	return []core.Act{reply(d, r.Code, r.Value)}
}

func (m *model) came(w waiting, r part.Res) []core.Act {
	if r.Code != part.Done {
		m.keys.Undo(w.e.Parts[0], w.old)
		return m.end(w.e.ID, part.Res{Code: part.Undone, Value: r.Value})
	}
	return m.end(w.e.ID, part.Res{Value: w.res.Value + "," + r.Value})
}

func (m *model) do(e entry.Entry) []core.Act {
	p := e.ID.Client
	switch {
	case !e.Right(group):
		return nil
	case e.Kind == entry.Kill:
		m.killed = append(m.killed, e.Victim)
		return nil
	case e.Kind == entry.Back:
		w, waits := m.waits[e.ID]
		delete(m.waits, e.ID)
		delete(m.asked, e.ID)
		if !waits {
			return nil
		}
		return m.came(w, e.Res)
	case m.dead(p):
		return nil
	}
	m.floors[p] = max(m.floors[p], e.Floor)
	if m.begun[e.ID] || e.ID.Depth == 0 && (e.ID.Seq <= m.floors[p] || e.ID.Seq > m.floors[p]+m.window) {
		return nil
	}
	m.begun[e.ID] = true
	w := waiting{e: e, old: m.keys.Get(e.Parts[0].Key)}
	w.res, _ = m.keys.Do(e.Parts[0])
	if w.res.Code != part.Done || len(e.Parts) == 1 {
		return m.end(e.ID, w.res)
	}
	if len(m.waits) == 4*api.MaxWindow {
		return m.came(w, part.Res{Code: part.Full})
	}
	child, _ := ident.Child(e.ID, group, 0)
	m.waits[child] = w
	m.asked[child] = ask(child, m.floors[p], e.Parts[1:]...)
	return []core.Act{m.asked[child]}
}

// state is how a call stands, as amo's chapter tells it.
func (m *model) state(d ident.ID) int {
	switch old := d.Depth == 0 && d.Seq <= m.floors[d.Client]; {
	case m.begun[d] && !m.ends[d]:
		return amo.Running
	case old:
		return amo.Old
	case m.ends[d]:
		return amo.Ended
	case d.Depth == 0 && d.Seq > m.floors[d.Client]+m.window:
		return amo.Far
	}
	return amo.Fresh
}

// pending are all Asks that have not come back.
func (m *model) pending() []core.Act {
	var l []core.Act
	for _, a := range m.asked {
		l = append(l, a)
	}
	slices.SortFunc(l, func(a, b core.Act) int { return ident.Compare(a.ID, b.ID) })
	return l
}

// P1602, P1603: orders of any entries, held against a model, entry by entry.
func TestP1602AnyOrder(t *testing.T) {
	rnd := rand.New(rand.NewSource(1602))
	undone, full := 0, 0
	for round := range 60 {
		window := 1 + rnd.Intn(api.MaxWindow)
		c, m := core.New(group, window), newModel(window)
		for step := range 400 {
			e := anyEntry(rnd, c, step)
			for round%4 == 0 && (e.Kind == entry.Kill || e.Kind == entry.Back && step%50 != 0) { // so that more and more wait, till no more can
				e = anyEntry(rnd, c, step)
			}
			got, want := c.Do(e), m.do(e)
			if !sameActs(got, want) || c.Done() != step+1 {
				t.Fatalf("Do(%s): %v, not %v", entry.Show(e), got, want)
			}
			if !slices.Equal(c.All(), m.keys.All()) || !sameActs(c.Pending(), m.pending()) {
				t.Fatalf("behind %s: %v and %v, not %v and %v", entry.Show(e), c.All(), c.Pending(), m.keys.All(), m.pending())
			}
			for _, d := range []ident.ID{e.ID, anyID(rnd, 30)} {
				r, ok := c.Res(d)
				if s := m.state(d); c.State(d) != s || ok != (s == amo.Ended) || ok && r != m.res[d] {
					t.Fatalf("%v: %d and %v, not %d and %v", d, c.State(d), r, s, m.res[d])
				}
				_, waits := m.waits[d]
				if c.Waits(d) != waits || c.Dead(d.Client) != m.dead(d.Client) {
					t.Fatalf("%v: Waits or Dead", d)
				}
			}
			if len(want) == 1 && want[0].Res.Code == part.Undone {
				undone++
				if e.Kind == entry.Call {
					full++
				}
			}
		}
	}
	if undone == 0 || full == 0 || undone == full {
		t.Errorf("%d were undone, %d of these since they could not wait", undone, full)
	}
}

// P1604: the same entries make the same of two cores; Checks in place of the Calls make the same store, tables and acts, wherever they are made.
func TestP1604TheSame(t *testing.T) {
	rnd := rand.New(rand.NewSource(1604))
	for range 60 {
		window := 1 + rnd.Intn(api.MaxWindow)
		a, b, head, other := core.New(group, window), core.New(group, window), core.New(group, window), core.New(group, window)
		for step := range 300 {
			e := anyEntry(rnd, a, step)
			told := e
			if k, err := head.Check(e); err == api.OK {
				told = k
				if again, _ := b.Check(e); !entry.Same(k, again) {
					t.Fatalf("Check(%s): %v, and %v of another one", entry.Show(e), k, again)
				}
			}
			acts := a.Do(e)
			for _, x := range [][]core.Act{b.Do(e), head.Do(told), other.Do(told)} {
				if !sameActs(acts, x) {
					t.Fatalf("%s: %v, and %v", entry.Show(e), acts, x)
				}
			}
			for _, x := range []*core.Core{b, head, other} {
				if !a.Same(x) || !x.Same(a) {
					t.Fatalf("behind %s they are not the same", entry.Show(e))
				}
			}
		}
	}
}

// P1605: however often an identifier's Call or Check stands in an order, its first part is done at most once.
func TestP1605Once(t *testing.T) {
	rnd := rand.New(rand.NewSource(1605))
	for range 100 {
		c := core.New(group, 4)
		begun := map[ident.ID]bool{}
		var order []entry.Entry
		for step := range 100 {
			d := anyID(rnd, 4+step/20)
			e := floored(d, uint32(rnd.Intn(int(d.Seq))), add("n", 1))
			if rnd.Intn(2) == 0 {
				e.Parts = append(e.Parts, in(1, read("b")))
			}
			if rnd.Intn(2) == 0 {
				if k, err := c.Check(e); err == api.OK {
					e = k
				}
			}
			order = append(order, e)
			switch l := c.Pending(); rnd.Intn(3) {
			case 0: // what stood in the order before stands there again, as it was
				e = order[rnd.Intn(len(order))]
			case 1:
				if len(l) > 0 {
					c.Do(back(l[0].ID, part.Done, ""))
				}
			}
			before := number(c)
			acts := c.Do(e)
			if len(acts) == 0 && number(c) != before {
				t.Fatal("something was done, and nothing came of it")
			}
			if len(acts) == 1 {
				if begun[e.ID] {
					t.Fatalf("%s is done again", entry.Show(e))
				}
				begun[e.ID] = true
			}
			if e.Kind == entry.Call && number(c) != before+len(acts) {
				t.Fatalf("%s: %d behind %d", entry.Show(e), number(c), before)
			}
		}
	}
}

// number is what the core's key n counts.
func number(c *core.Core) int {
	n := 0
	for _, w := range c.All() {
		for _, digit := range w.Value {
			n = 10*n + int(digit-'0')
		}
	}
	return n
}

// P1606: behind a Kill no call of the victim, or its children, changes the store.
func TestP1606Dead(t *testing.T) {
	rnd := rand.New(rand.NewSource(1606))
	for range 100 {
		c := core.New(group, api.MaxWindow)
		for step := range 50 {
			c.Do(anyEntry(rnd, c, step))
		}
		victim := anyProc(rnd)
		c.Do(kill(victim))
		for step := range 100 {
			e := anyEntry(rnd, c, step)
			if k, err := c.Check(e); err == api.OK && rnd.Intn(2) == 0 {
				e = k
			}
			before := c.Clone()
			acts := c.Do(e)
			if e.Kind != entry.Call && e.Kind != entry.Check || e.ID.Client.Node != victim.Node || e.ID.Client.Life > victim.Life {
				continue
			}
			before.Do(entry.Entry{})
			if len(acts) != 0 || !c.Same(before) {
				t.Fatalf("behind the Kill of %v: %s", victim, entry.Show(e))
			}
		}
	}
}
