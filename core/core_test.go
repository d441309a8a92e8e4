package core_test

import (
	"slices"
	"testing"

	"gemot/amo"
	"gemot/api"
	"gemot/core"
	"gemot/entry"
	"gemot/ident"
	"gemot/part"
	"gemot/store"
)

const group = 2 // whose core it is, where a test names none

var (
	one   = ident.Proc{Node: 1, Life: 1}
	again = ident.Proc{Node: 1, Life: 2} // the same node's next life, which is another client
	two   = ident.Proc{Node: 2, Life: 1}
)

// id is a client's call, or one that was made for it, behind steps.
func id(client ident.Proc, seq uint32, steps ...ident.Step) ident.ID {
	d := ident.ID{Client: client, Seq: seq, Depth: uint8(len(steps))}
	copy(d.Path[:], steps)
	return d
}

// below is the child that is asked for by the group.
func below(t *testing.T, d ident.ID) ident.ID {
	t.Helper()
	child, e := ident.Child(d, group, 0)
	if e != api.OK {
		t.Fatalf("%v has no child: %d", d, e)
	}
	return child
}

func add(key string, n int64) part.Part {
	return part.Part{Group: group, Kind: part.Add, Key: key, N: n}
}

func take(key string, n int64) part.Part {
	return part.Part{Group: group, Kind: part.Take, Key: key, N: n}
}

func read(key string) part.Part {
	return part.Part{Group: group, Kind: part.Read, Key: key}
}

func erase(key string) part.Part {
	return part.Part{Group: group, Kind: part.Erase, Key: key}
}

func write(key, value string) part.Part {
	return part.Part{Group: group, Kind: part.Write, Key: key, Value: value}
}

// in is a part for another group.
func in(g uint8, p part.Part) part.Part {
	p.Group = g
	return p
}

// call is a Call whose client has had no answer.
func call(d ident.ID, parts ...part.Part) entry.Entry {
	return entry.Entry{Kind: entry.Call, ID: d, Parts: parts}
}

// floored is a Call whose client has had the answers up to a number.
func floored(d ident.ID, floor uint32, parts ...part.Part) entry.Entry {
	e := call(d, parts...)
	e.Floor = floor
	return e
}

// asCheck is what one member tells of a Call that it has done.
func asCheck(e entry.Entry, r part.Res, writes ...store.Write) entry.Entry {
	e.Kind, e.Res, e.Writes = entry.Check, r, writes
	return e
}

func back(child ident.ID, code uint8, value string) entry.Entry {
	return entry.Entry{Kind: entry.Back, ID: child, Res: part.Res{Code: code, Value: value}}
}

func kill(p ident.Proc) entry.Entry {
	return entry.Entry{Kind: entry.Kill, Victim: p}
}

func reply(d ident.ID, code uint8, value string) core.Act {
	return core.Act{Kind: core.Reply, ID: d, Res: part.Res{Code: code, Value: value}}
}

func ask(child ident.ID, floor uint32, parts ...part.Part) core.Act {
	return core.Act{Kind: core.Ask, ID: child, Parts: parts, Floor: floor}
}

func is(key, value string) store.Write {
	return store.Write{Key: key, Value: value, Has: true}
}

func sameAct(a, b core.Act) bool {
	return a.Kind == b.Kind && a.ID == b.ID && a.Res == b.Res && part.Same(a.Parts, b.Parts) && a.Floor == b.Floor
}

func sameActs(a, b []core.Act) bool {
	return slices.EqualFunc(a, b, sameAct)
}

// does lets a core do an entry, and holds what comes of it against what should.
func does(t *testing.T, c *core.Core, e entry.Entry, want ...core.Act) {
	t.Helper()
	n := c.Done()
	if got := c.Do(e); !sameActs(got, want) {
		t.Errorf("Do(%s): %v, not %v", entry.Show(e), got, want)
	}
	if c.Done() != n+1 {
		t.Errorf("Do(%s): it has done %d behind %d", entry.Show(e), c.Done(), n)
	}
}

// holds holds what is in a core's store against what should be.
func holds(t *testing.T, c *core.Core, want ...store.Write) {
	t.Helper()
	if got := c.All(); !slices.Equal(got, want) {
		t.Errorf("in the store: %v, not %v", got, want)
	}
}

// of is a core that has done entries, whatever came of them.
func of(window int, l ...entry.Entry) *core.Core {
	c := core.New(group, window)
	for _, e := range l {
		c.Do(e)
	}
	return c
}

// spoil overwrites a list, and the room behind it.
func spoil[T any](l []T) {
	clear(l[:cap(l)])
}

// P1601: nil cores, and those that New did not make.
func TestP1601Unmade(t *testing.T) {
	d := id(one, 5)
	for _, c := range []*core.Core{nil, {}, new(core.Core)} {
		for _, e := range []entry.Entry{{}, call(d, add("a", 5)), call(d, add("a", 5), in(1, add("b", 5))), back(below(t, d), part.Done, ""), kill(one)} {
			if len(c.Do(e)) != 0 {
				t.Error("Do")
			}
			if got, err := c.Check(e); err != api.ErrArg || !entry.Same(got, entry.Entry{}) {
				t.Error(got, err)
			}
		}
		if c.State(d) != amo.Old || c.State(ident.ID{}) != amo.Old || c.Dead(one) || c.Dead(ident.Proc{}) || c.Waits(below(t, d)) || c.Waits(ident.ID{}) {
			t.Error("State, Dead or Waits")
		}
		if r, ok := c.Res(d); ok || r != (part.Res{}) {
			t.Error(r, ok)
		}
		if len(c.Pending()) != 0 || len(c.All()) != 0 || c.Done() != 0 || c.Clone() != nil {
			t.Error("Pending, All, Done or Clone")
		}
		if !c.Same(nil) || !c.Same(&core.Core{}) || c.Same(core.New(0, 1)) || core.New(0, 1).Same(c) {
			t.Error("Same")
		}
	}
}

// P1602: New, of every group, with the window as amo's.
func TestP1602New(t *testing.T) {
	for g := range 256 {
		c := core.New(uint8(g), 4)
		if (c != nil) != (g < api.MaxGroups) {
			t.Errorf("group %d: %v", g, c)
		}
		if c.Done() != 0 || len(c.All()) != 0 || len(c.Pending()) != 0 || c.Dead(one) {
			t.Errorf("group %d: something was done", g)
		}
	}
	for _, w := range []struct {
		window int
		last   uint32
	}{{-1 << 62, 1}, {-1, 1}, {0, 1}, {1, 1}, {2, 2}, {api.MaxWindow, api.MaxWindow}, {api.MaxWindow + 1, api.MaxWindow}, {1 << 62, api.MaxWindow}} {
		c := core.New(group, w.window)
		if c.State(id(one, w.last)) != amo.Fresh || c.State(id(one, w.last+1)) != amo.Far {
			t.Errorf("window %d: State", w.window)
		}
		does(t, c, call(id(one, w.last+1), add("a", 1)))
		does(t, c, call(id(one, w.last), add("a", 1)), reply(id(one, w.last), part.Done, "1"))
	}
}

// P1603: State and Res are the table's.
func TestP1603StateAndRes(t *testing.T) {
	c := of(2, floored(id(one, 2), 1, add("a", 5)), floored(id(one, 3), 1, take("a", 1), in(1, add("b", 1))))
	for d, want := range map[ident.ID]int{
		id(one, 1):             amo.Old,
		id(one, 2):             amo.Ended,
		id(one, 3):             amo.Running,
		id(one, 4):             amo.Far,
		id(two, 1):             amo.Fresh,
		id(two, 3):             amo.Far,
		below(t, id(one, 3)):   amo.Fresh, // it is done elsewhere
		id(one, 0):             amo.Old,
		{Client: one, Seq: 99}: amo.Far,
	} {
		if got := c.State(d); got != want {
			t.Errorf("State(%v): %d, not %d", d, got, want)
		}
		r, ok := c.Res(d)
		if ok != (want == amo.Ended) || !ok && r != (part.Res{}) {
			t.Errorf("Res(%v): %v, %v", d, r, ok)
		}
	}
	if r, _ := c.Res(id(one, 2)); r != (part.Res{Value: "5"}) {
		t.Error(r)
	}
}

// P1602, P1603: who is dead: a node's lives up to the greatest one that was killed.
func TestP1603Dead(t *testing.T) {
	last := ident.Proc{Node: api.MaxNodes - 1, Life: 1<<16 - 1}
	c := of(4, kill(ident.Proc{Node: 3, Life: 5}), kill(ident.Proc{Node: 3, Life: 2}), kill(last), kill(ident.Proc{Life: 1}), kill(ident.Proc{Life: 3}))
	for node, killed := range map[uint8]uint16{0: 3, 1: 0, 2: 0, 3: 5, 4: 0, api.MaxNodes - 1: last.Life} {
		for _, life := range []uint16{1, 2, 3, 4, 5, 6, 300, 1<<16 - 2, 1<<16 - 1} {
			if p := (ident.Proc{Node: node, Life: life}); c.Dead(p) != (life <= killed) {
				t.Errorf("Dead(%v): %v", p, c.Dead(p))
			}
		}
	}
	for node := api.MaxNodes; node < 256; node++ {
		if c.Dead(ident.Proc{Node: uint8(node), Life: 1}) || c.Dead(ident.Proc{Node: uint8(node)}) {
			t.Errorf("node %d is dead", node)
		}
	}
	if c.Dead(ident.Proc{Node: 1}) || core.New(group, 1).Dead(ident.Proc{}) {
		t.Error("somebody is dead of whose node nobody was killed")
	}
}

// P1603: Waits, of the children that are waited for, and of nobody else.
func TestP1603Waits(t *testing.T) {
	d := id(one, 1)
	c := of(4, call(d, add("a", 1), in(1, add("b", 1))), call(id(one, 2), add("a", 1)))
	if !c.Waits(below(t, d)) {
		t.Error("nobody waits")
	}
	for _, none := range []ident.ID{{}, d, below(t, id(one, 2)), id(one, 1, ident.Step{Group: 1}), id(one, 1, ident.Step{Group: group, Index: 1}), below(t, id(again, 1))} {
		if c.Waits(none) {
			t.Errorf("somebody waits for %v", none)
		}
	}
	c.Do(back(below(t, d), part.Done, ""))
	if c.Waits(below(t, d)) {
		t.Error("somebody waits still")
	}
}

// P1603: Pending, by the order of the children, which is not that of the calls, each with the floor of then.
func TestP1603Pending(t *testing.T) {
	deep := id(one, 1, ident.Step{Group: 3})
	deeper := id(one, 1, ident.Step{}, ident.Step{Group: 1, Index: 7})
	c := core.New(group, 4)
	if len(c.Pending()) != 0 {
		t.Error("something is pending in a new one")
	}
	for _, e := range []entry.Entry{
		call(id(two, 1), read("a"), in(0, read("c"))),
		call(deep, read("a"), in(1, read("d"))),
		call(id(one, 1), add("a", 1), in(3, add("b", 2)), add("c", 3), in(1, add("d", 4))),
		floored(id(one, 3), 2, write("w", "v"), in(1, erase("e"))),
		call(deeper, read("a"), read("f")),
		floored(id(one, 4), 3, read("a")),
		floored(id(two, 2), 1, take("a", 99), in(0, read("c"))),
	} {
		c.Do(e)
	}
	want := []core.Act{
		ask(below(t, deeper), 2, read("f")),
		ask(below(t, id(one, 1)), 0, in(3, add("b", 2)), add("c", 3), in(1, add("d", 4))),
		ask(below(t, deep), 0, in(1, read("d"))),
		ask(below(t, id(one, 3)), 2, in(1, erase("e"))),
		ask(below(t, id(two, 1)), 0, in(0, read("c"))),
	}
	if got := c.Pending(); !sameActs(got, want) {
		t.Errorf("%v, not %v", got, want)
	}
	if got := c.Clone().Pending(); !sameActs(got, want) {
		t.Errorf("of a clone: %v", got)
	}
	c.Do(back(below(t, id(one, 1)), part.Poor, ""))
	if got := c.Pending(); !sameActs(got, append(slices.Clone(want[:1]), want[2:]...)) {
		t.Error(got)
	}
}

// P1603: All, by rising keys.
func TestP1603All(t *testing.T) {
	c := of(8, call(id(one, 1), write("b", "x")), call(id(one, 2), add("a", 5)), call(id(one, 3), write("aa", "")), call(id(one, 4), write("c", "y")), call(id(one, 5), erase("c")))
	holds(t, c, is("a", "5"), is("aa", ""), is("b", "x"))
	holds(t, core.New(group, 1))
}

// P1603: a clone is the same, and goes its own way.
func TestP1603Clone(t *testing.T) {
	d := id(one, 2)
	c := of(3, floored(id(one, 2), 1, take("a", 0), in(1, read("b"))), call(id(two, 1), write("w", "v")), kill(ident.Proc{Node: 7, Life: 2}))
	x, y := c.Clone(), c.Clone()
	if !c.Same(x) || !x.Same(c) || x.Done() != 3 {
		t.Fatal("a clone is another one")
	}
	does(t, x, back(below(t, d), part.Done, "q"), reply(d, part.Done, "0,q"))
	does(t, x, call(id(two, 2), add("a", 7)), reply(id(two, 2), part.Done, "7"))
	does(t, x, kill(ident.Proc{Node: 7, Life: 4}))
	if !c.Same(y) || c.Same(x) || c.Done() != 3 || !c.Waits(below(t, d)) || c.State(id(two, 2)) != amo.Fresh || c.Dead(ident.Proc{Node: 7, Life: 3}) {
		t.Error("what was done to a clone is seen in the core")
	}
	holds(t, c, is("a", "0"), is("w", "v"))
	does(t, c, floored(id(one, 3), 2, erase("w")), reply(id(one, 3), part.Done, "v"))
	does(t, c, kill(one))
	if y.Done() != 3 || y.Dead(one) || y.State(id(one, 3)) != amo.Fresh || len(y.Pending()) != 1 {
		t.Error("what was done to the core is seen in a clone")
	}
	holds(t, y, is("a", "0"), is("w", "v"))
	for g := range uint8(api.MaxGroups) {
		z := core.New(g, 2).Clone()
		if !z.Same(core.New(g, 2)) || len(z.Do(call(id(one, 1), in(g, read("a"))))) != 1 || z.State(id(one, 3)) != amo.Far {
			t.Errorf("group %d: a clone of a new one", g)
		}
	}
}

// P1603: Same holds the group, what was done, the tables, the store, and who is dead.
func TestP1603Same(t *testing.T) {
	child := ident.Step{Group: 1}
	plain := func() *core.Core {
		return of(3, call(id(one, 1), add("a", 1)), call(id(one, 2), add("a", 1), in(1, read("b"))), kill(two))
	}
	with := func(l ...entry.Entry) *core.Core {
		c := plain()
		for _, e := range l {
			c.Do(e)
		}
		return c
	}
	if !plain().Same(plain()) || !with(kill(two)).Same(with(kill(two))) {
		t.Fatal("the same entries make others")
	}
	if c := with(entry.Entry{Kind: 9}); c.Same(plain()) || !c.Same(with(kill(two))) {
		t.Error("how many were done does not count, or more than that does")
	}
	// each pair differs in one thing, and but for Done the same number was done
	pairs := map[string][2]*core.Core{
		"the group":      {core.New(1, 3), core.New(2, 3)},
		"the window":     {core.New(1, 3), core.New(1, 4)},
		"Done":           {plain(), with(kill(two))},
		"the store":      {with(call(id(one, 3), write("a", "x"))), with(call(id(one, 3), write("a", "y")))},
		"a key":          {with(call(id(one, 3), write("c", ""))), with(call(id(one, 3), write("d", "")))},
		"a call":         {with(call(id(one, 3), write("c", ""))), with(call(id(again, 3), write("c", "")))},
		"a result":       {with(call(id(one, 3), read("a"))), with(call(id(one, 3), read("c")))},
		"a floor":        {with(call(id(again, 3, child), read("a"))), with(floored(id(again, 3, child), 2, read("a")))},
		"no call":        {with(call(id(one, 3), read("a"))), with(kill(two))},
		"what waits":     {with(call(id(one, 3), read("a"), read("a"))), with(call(id(one, 3), read("a"), read("b")))},
		"that it waits":  {with(back(below(t, id(one, 2)), part.Done, "")), with(kill(two))},
		"who is dead":    {with(kill(again)), with(kill(two))},
		"in which life":  {with(kill(one)), with(kill(again))},
		"how it came to": {with(back(below(t, id(one, 2)), part.Done, "1")), with(back(below(t, id(one, 2)), part.Done, "2"))},
	}
	for name, p := range pairs {
		if p[0].Same(p[1]) || p[1].Same(p[0]) || !p[0].Same(p[0]) || !p[1].Same(p[1].Clone()) {
			t.Errorf("%s does not count", name)
		}
	}
	if plain().Same(nil) || plain().Same(&core.Core{}) {
		t.Error("with none")
	}
}

// P1601: what is handed in is not changed, and not kept.
func TestP1601TakenInApart(t *testing.T) {
	parts := append(make([]part.Part, 0, 8), add("a", 1), in(1, add("b", 2)), in(0, add("c", 3)), read("behind"))
	writes := append(make([]store.Write, 0, 4), is("w", "v"), is("behind", ""))
	c, k := core.New(group, 4), core.New(group, 4)
	c.Do(call(id(one, 1), parts[:3]...))
	k.Do(asCheck(call(id(one, 1), write("w", "v"), parts[1], parts[2]), part.Res{}, writes[:1]...))
	if _, err := c.Check(call(id(one, 2), parts[:3]...)); err != api.OK {
		t.Error(err)
	}
	if !slices.Equal(parts, []part.Part{add("a", 1), in(1, add("b", 2)), in(0, add("c", 3)), read("behind")}) || !slices.Equal(writes, []store.Write{is("w", "v"), is("behind", "")}) {
		t.Error("what was handed in was changed")
	}
	spoil(parts)
	spoil(writes)
	want := []core.Act{ask(below(t, id(one, 1)), 0, in(1, add("b", 2)), in(0, add("c", 3)))}
	if !sameActs(c.Pending(), want) || len(k.Pending()) != 1 {
		t.Error(c.Pending(), k.Pending())
	}
	holds(t, c, is("a", "1"))
	holds(t, k, is("w", "v"))
}

// P1601: what is told shares nothing with the core, with what was handed in, or with another answer.
func TestP1601ToldApart(t *testing.T) {
	d, rest := id(one, 1), []part.Part{in(1, add("b", 2)), in(0, add("c", 3))}
	e := call(d, add("a", 1), rest[0], rest[1])
	c := core.New(group, 4)
	told := c.Do(e)
	c.Do(call(id(one, 2), add("a", 1), in(1, add("d", 4))))
	clone := c.Clone()
	spoil(told[0].Parts)
	spoil(told)
	if !slices.Equal(e.Parts[1:], rest) {
		t.Error("an act shares with the entry")
	}
	kept, pending := c.Pending(), c.Pending()
	spoil(pending[0].Parts)
	if !slices.Equal(pending[1].Parts, []part.Part{in(1, add("d", 4))}) {
		t.Error("two acts of one answer share something")
	}
	spoil(pending[1].Parts)
	spoil(pending)
	all := c.All()
	spoil(all)
	holds(t, c, is("a", "2"))
	want := []core.Act{ask(below(t, d), 0, rest...), ask(below(t, id(one, 2)), 0, in(1, add("d", 4)))}
	if !sameActs(kept, want) || !sameActs(c.Pending(), want) || !sameActs(clone.Pending(), want) || !c.Same(clone) {
		t.Error("what was told is changed in the core, in a clone, or in another answer")
	}
	asked := call(id(one, 3), write("w", "v"), rest[0])
	k, _ := c.Check(asked)
	other, _ := c.Check(asked)
	spoil(k.Parts)
	spoil(k.Writes)
	if !slices.Equal(asked.Parts, []part.Part{write("w", "v"), rest[0]}) || !entry.Same(other, asCheck(asked, part.Res{}, is("w", "v"))) || !c.Same(clone) {
		t.Error("a Check shares with the Call, with another one, or with the core")
	}
}
