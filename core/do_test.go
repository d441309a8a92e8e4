package core_test

import (
	"math"
	"strconv"
	"strings"
	"testing"

	"gemot/amo"
	"gemot/api"
	"gemot/core"
	"gemot/entry"
	"gemot/ident"
	"gemot/part"
	"gemot/store"
)

// P1602: the chapter's example.
func TestP1602Example(t *testing.T) {
	d := id(one, 2)
	c := of(4, call(id(one, 1), add("a", 8)))
	does(t, c, floored(d, 1, take("a", 5), in(1, add("b", 5))), ask(below(t, d), 1, in(1, add("b", 5))))
	holds(t, c, is("a", "3"))
	does(t, c, back(below(t, d), part.Done, "5"), reply(d, part.Done, "3,5"))
	holds(t, c, is("a", "3"))
	if r, ok := c.Res(d); !ok || r != (part.Res{Value: "3,5"}) || c.Waits(below(t, d)) {
		t.Error(r, ok)
	}
}

// P1602: calls of one part, of all kinds and results.
func TestP1602CallOfOnePart(t *testing.T) {
	steps := []struct {
		p     part.Part
		code  uint8
		value string
		then  []store.Write
	}{
		{read("a"), part.Done, "", nil},
		{add("a", 5), part.Done, "5", []store.Write{is("a", "5")}},
		{take("a", 2), part.Done, "3", []store.Write{is("a", "3")}},
		{take("a", 9), part.Poor, "", []store.Write{is("a", "3")}},
		{read("a"), part.Done, "3", []store.Write{is("a", "3")}},
		{write("a", "x"), part.Done, "", []store.Write{is("a", "x")}},
		{add("a", 1), part.Odd, "", []store.Write{is("a", "x")}},
		{take("a", 1), part.Odd, "", []store.Write{is("a", "x")}},
		{erase("b"), part.Done, "", []store.Write{is("a", "x")}},
		{write("b", ""), part.Done, "", []store.Write{is("a", "x"), is("b", "")}},
		{erase("a"), part.Done, "x", []store.Write{is("b", "")}},
		{add("c", math.MaxInt64), part.Done, "9223372036854775807", []store.Write{is("b", ""), is("c", "9223372036854775807")}},
		{add("c", 1), part.Odd, "", []store.Write{is("b", ""), is("c", "9223372036854775807")}},
	}
	c := core.New(group, api.MaxWindow)
	for i, s := range steps {
		d := id(one, uint32(i+1))
		does(t, c, call(d, s.p), reply(d, s.code, s.value))
		holds(t, c, s.then...)
		if r, ok := c.Res(d); !ok || r != (part.Res{Code: s.code, Value: s.value}) || c.State(d) != amo.Ended {
			t.Errorf("%s: %v, %v", part.Show(s.p), r, ok)
		}
	}
}

// P1602: entries that are not right for the group count for Done, and nothing more comes of them.
func TestP1602WrongOnes(t *testing.T) {
	d, child := id(one, 2), below(t, id(one, 1))
	c := of(4, call(id(one, 1), add("a", 1), in(1, add("b", 1))))
	before := c.Clone()
	for i, e := range []entry.Entry{
		{},
		{Kind: 4},
		{Kind: 255, ID: d, Parts: []part.Part{add("a", 1)}},
		call(d),
		call(d, in(1, add("a", 1))),
		call(d, add("", 1)),
		call(d, add("a", -1)),
		call(d, add("a", 1), in(api.MaxGroups, add("b", 1))),
		call(d, add("a", 1), read("b"), read("b"), read("b"), read("b")),
		call(id(one, 2, ident.Step{}, ident.Step{}), add("a", 1), read("b"), read("b")),
		call(id(one, 2, ident.Step{}, ident.Step{}, ident.Step{}), add("a", 1), read("b")),
		call(id(one, 0), add("a", 1)),
		call(id(one, api.MaxSeq+1), add("a", 1)),
		call(id(ident.Proc{}, 1), add("a", 1)),
		floored(d, 2, add("a", 1)),
		floored(d, math.MaxUint32, add("a", 1)),
		{Kind: entry.Call, ID: d, Parts: []part.Part{add("a", 1)}, Res: part.Res{Value: "1"}},
		{Kind: entry.Call, ID: d, Parts: []part.Part{add("a", 1)}, Writes: []store.Write{is("a", "7")}},
		{Kind: entry.Call, ID: d, Parts: []part.Part{add("a", 1)}, Victim: two},
		asCheck(call(d, add("a", 1)), part.Res{Value: "1"}),
		asCheck(call(d, add("a", 1)), part.Res{Code: part.Poor}, is("a", "7")),
		asCheck(call(d, add("a", 1)), part.Res{Value: "1"}, is("b", "1")),
		asCheck(call(d, add("a", 1)), part.Res{Value: "1"}, is("a", "1"), is("a", "1")),
		asCheck(call(d, read("a")), part.Res{Value: "1"}, is("a", "1")),
		asCheck(call(d, add("a", 1)), part.Res{Code: part.Undone}),
		asCheck(call(d, add("a", 1)), part.Res{Code: part.Dead}),
		asCheck(call(d, in(1, read("a"))), part.Res{}),
		back(id(one, 1, ident.Step{Group: 1}), part.Done, ""),
		back(id(one, 1), part.Done, ""),
		back(ident.ID{}, part.Done, ""),
		back(child, 6, ""),
		back(child, part.Done, strings.Repeat("v", 1001)),
		{Kind: entry.Back, ID: child, Floor: 1},
		{Kind: entry.Back, ID: child, Parts: []part.Part{add("a", 1)}},
		{Kind: entry.Back, ID: child, Victim: two},
		kill(ident.Proc{}),
		kill(ident.Proc{Node: 3}),
		kill(ident.Proc{Node: api.MaxNodes, Life: 1}),
		kill(ident.Proc{Node: 255, Life: 1}),
		{Kind: entry.Kill, Victim: two, ID: d},
	} {
		if got := c.Do(e); len(got) != 0 || c.Done() != i+2 {
			t.Errorf("%d: %v, and %d are done", i, got, c.Done())
		}
		before.Do(entry.Entry{})
		if !c.Same(before) {
			t.Fatalf("%d: something has changed", i)
		}
	}
	// each group has its own
	for g := range uint8(api.MaxGroups) {
		c := core.New(g, 4)
		for at := range uint8(api.MaxGroups) {
			if got := c.Do(call(id(one, uint32(at+1)), in(at, read("a")))); (len(got) == 1) != (at == g) {
				t.Errorf("group %d, a call of group %d: %v", g, at, got)
			}
		}
	}
}

// P1602: a call with more parts, the first one of which is not Done, is finished with that.
func TestP1602FirstNotDone(t *testing.T) {
	c := of(api.MaxWindow, call(id(one, 1), write("x", "no")))
	for i, s := range []struct {
		p    part.Part
		code uint8
	}{{take("a", 1), part.Poor}, {add("x", 1), part.Odd}} {
		d := id(two, uint32(i+1))
		does(t, c, call(d, s.p, in(1, add("b", 1))), reply(d, s.code, ""))
		if c.Waits(below(t, d)) || len(c.Pending()) != 0 || c.State(d) != amo.Ended {
			t.Error("it waits")
		}
	}
	holds(t, c, is("x", "no"))
}

// P1602: no room for a key.
func TestP1602Full(t *testing.T) {
	c := core.New(group, 1)
	for i := range uint32(api.MaxKeys) {
		c.Do(floored(id(one, i+1), i, write("k"+strconv.Itoa(int(i)), "")))
	}
	d := id(two, 1)
	does(t, c, call(d, write("new", ""), in(1, read("b"))), reply(d, part.Full, ""))
	if len(c.All()) != api.MaxKeys {
		t.Error(len(c.All()))
	}
	k, err := c.Check(floored(id(two, 2), 1, add("new", 1)))
	if err != api.OK || k.Res != (part.Res{Code: part.Full}) || len(k.Writes) != 0 {
		t.Error(k, err)
	}
	does(t, c, k, reply(k.ID, part.Full, ""))
}

// P1602: the first part of a call that waits may be of any kind; a result without a value counts.
func TestP1602Asks(t *testing.T) {
	rest := []part.Part{in(1, add("b", 5)), add("c", 0), in(3, write("d", ""))}
	c := of(api.MaxWindow, call(id(one, 1), write("a", "v")))
	for i, p := range []part.Part{read("a"), read("none"), write("w", "x"), add("n", 0), take("n", 0), erase("a"), erase("none")} {
		d := id(two, uint32(i+1))
		n := 1 + i%len(rest)
		does(t, c, call(d, append([]part.Part{p}, rest[:n]...)...), ask(below(t, d), 0, rest[:n]...))
		if !c.Waits(below(t, d)) || c.State(d) != amo.Running || len(c.Pending()) != i+1 {
			t.Errorf("%s: it does not wait", part.Show(p))
		}
		if r, ok := c.Res(d); ok || r != (part.Res{}) {
			t.Errorf("%s: it has a result", part.Show(p))
		}
	}
	holds(t, c, is("n", "0"), is("w", "x"))
	// a child goes on, too, down to MaxDepth
	deep := id(one, 9, ident.Step{Group: 1}, ident.Step{Group: 3})
	does(t, c, call(deep, read("w"), in(1, read("b"))), ask(below(t, deep), 0, in(1, read("b"))))
	bottom := below(t, deep)
	does(t, c, call(bottom, read("w")), reply(bottom, part.Done, "x"))
}

// P1602: a floor is raised by each Call and Check of a client that is not dead, may it begin or not; what is asked for tells the floor of the table.
func TestP1602Floor(t *testing.T) {
	child := func(seq uint32, client ident.Proc) ident.ID {
		return id(client, seq, ident.Step{Group: 3})
	}
	c := core.New(group, 2)
	does(t, c, call(id(one, 1), read("a")), reply(id(one, 1), part.Done, ""))
	does(t, c, floored(id(one, 2), 1, read("a"), read("b")), ask(below(t, id(one, 2)), 1, read("b")))
	if c.State(id(one, 1)) != amo.Old {
		t.Error("by the same call that begins")
	}
	// it may not begin: it did, or is far
	does(t, c, floored(id(one, 2), 0, read("a"), read("b")))
	does(t, c, floored(id(one, 9), 5, read("a"), read("b")))
	if c.State(id(one, 5)) != amo.Old || c.State(id(one, 7)) != amo.Fresh || c.State(id(one, 8)) != amo.Far {
		t.Error("by a call that is far")
	}
	does(t, c, floored(id(one, 9), 8, read("a"), read("b")), ask(below(t, id(one, 9)), 8, read("b")))
	does(t, c, floored(id(one, 9), 7, read("a")))
	// a lower one does not count, the table's is told
	does(t, c, floored(child(10, one), 3, read("a"), read("b")), ask(below(t, child(10, one)), 8, read("b")))
	does(t, c, asCheck(floored(child(11, one), 9, read("a"), read("b")), part.Res{}), ask(below(t, child(11, one)), 9, read("b")))
	// by a child, and by a Check that may not begin
	does(t, c, asCheck(floored(child(11, one), 10, read("a")), part.Res{}))
	if c.State(id(one, 10)) != amo.Old || c.State(id(one, 12)) != amo.Fresh {
		t.Error("by a Check that is there")
	}
	// a child is asked for with the table's floor also where its own call is below that
	does(t, c, floored(child(4, one), 3, read("a"), read("b")), ask(below(t, child(4, one)), 10, read("b")))
	// of another life it is another floor
	does(t, c, call(id(again, 1), read("a"), read("b")), ask(below(t, id(again, 1)), 0, read("b")))
	// pending tells the floors of then
	for _, a := range c.Pending() {
		if want := map[uint32]uint32{1: 0, 2: 1, 4: 10, 9: 8, 10: 8, 11: 9}[a.ID.Seq]; a.Floor != want {
			t.Errorf("%v: %d, not %d", a.ID, a.Floor, want)
		}
	}
	// an old root may not begin; neither its floor nor it counts any more
	does(t, c, floored(id(one, 10), 9, add("a", 1)))
	holds(t, c)
}

// P1602: the floor of a dead one is not raised.
func TestP1602FloorOfTheDead(t *testing.T) {
	c, d := of(4, kill(one)), of(4, kill(one))
	for _, e := range []entry.Entry{
		floored(id(one, 9), 8, add("a", 1)),
		floored(id(one, 9, ident.Step{}), 8, add("a", 1)),
		asCheck(floored(id(one, 9), 8, add("a", 1)), part.Res{Value: "1"}, is("a", "1")),
	} {
		does(t, c, e)
		d.Do(entry.Entry{})
		if !c.Same(d) {
			t.Errorf("%s: something has changed", entry.Show(e))
		}
	}
}

// P1602: of a Check the writes are applied, and the result is the one told, whatever the part would come to here.
func TestP1602ChecksAreTold(t *testing.T) {
	c := of(api.MaxWindow, call(id(one, 1), write("a", "here")))
	for i, s := range []struct {
		e    entry.Entry
		then []store.Write
	}{
		{asCheck(call(ident.ID{}, add("a", 5)), part.Res{Value: "told"}, is("a", "7")), []store.Write{is("a", "7")}},
		{asCheck(call(ident.ID{}, read("a")), part.Res{Value: "other"}), []store.Write{is("a", "7")}},
		{asCheck(call(ident.ID{}, take("a", 1)), part.Res{Code: part.Poor, Value: "p"}), []store.Write{is("a", "7")}},
		{asCheck(call(ident.ID{}, write("b", "x")), part.Res{Code: part.Full}), []store.Write{is("a", "7")}},
		{asCheck(call(ident.ID{}, add("b", 1)), part.Res{Code: part.Odd}), []store.Write{is("a", "7")}},
		{asCheck(call(ident.ID{}, add("a", 1)), part.Res{Value: "gone"}, store.Write{Key: "a"}), nil},
		{asCheck(call(ident.ID{}, erase("b")), part.Res{}, is("b", "x")), []store.Write{is("b", "x")}},
	} {
		e, d := s.e, id(two, uint32(i+1))
		e.ID = d
		does(t, c, e, reply(d, e.Res.Code, e.Res.Value))
		holds(t, c, s.then...)
		if r, ok := c.Res(d); !ok || r != e.Res {
			t.Error(r, ok)
		}
	}
	// with more parts it waits, and is joined and undone by what was told
	d := id(one, 2)
	does(t, c, asCheck(call(d, write("b", "y"), read("q")), part.Res{Value: "t"}, is("b", "z")), ask(below(t, d), 0, read("q")))
	holds(t, c, is("b", "z"))
	x := c.Clone()
	does(t, c, back(below(t, d), part.Done, "q"), reply(d, part.Done, "t,q"))
	holds(t, c, is("b", "z"))
	does(t, x, back(below(t, d), part.Odd, "q"), reply(d, part.Undone, "q"))
	holds(t, x, is("b", "x"))
}

// P1602: a call that began, as a Call or a Check, does not begin again, neither while it runs nor when it has ended.
func TestP1602BeginsOnce(t *testing.T) {
	d := id(one, 1)
	c := core.New(group, 2)
	asks := call(d, add("a", 1), in(1, read("b")))
	twice := []entry.Entry{asks, call(d, add("a", 1)), call(d, write("z", "")), asCheck(call(d, add("a", 1)), part.Res{Value: "9"}, is("a", "9"))}
	does(t, c, asks, ask(below(t, d), 0, in(1, read("b"))))
	for _, e := range twice {
		does(t, c, e)
	}
	does(t, c, back(below(t, d), part.Done, ""), reply(d, part.Done, "1,"))
	for _, e := range twice {
		does(t, c, e)
	}
	does(t, c, floored(id(one, 2), 1, read("a")), reply(id(one, 2), part.Done, "1"))
	for _, e := range twice {
		does(t, c, e)
	}
	holds(t, c, is("a", "1"))
	k := asCheck(call(id(two, 1), add("k", 1)), part.Res{Value: "1"}, is("k", "1"))
	does(t, c, k, reply(k.ID, part.Done, "1"))
	does(t, c, k)
	does(t, c, call(k.ID, add("k", 1)))
	holds(t, c, is("a", "1"), is("k", "1"))
}

// full is a core in which as many wait as may, and one call of two for each window that is asked for.
func full(t *testing.T) *core.Core {
	t.Helper()
	c := core.New(group, api.MaxWindow)
	for i := range uint32(4 * api.MaxWindow) {
		d := id(ident.Proc{Node: uint8(5 + i/api.MaxWindow), Life: 1}, 1+i%api.MaxWindow)
		does(t, c, call(d, add("n", 1), in(1, read("b"))), ask(below(t, d), 0, in(1, read("b"))))
	}
	return c
}

// P1602: what can't wait is undone, and finished as if Full had come back.
func TestP1602CantWait(t *testing.T) {
	c := full(t)
	c.Do(call(id(two, 1), write("w", "was")))
	c.Do(call(id(two, 2), write("e", "was")))
	then := []store.Write{is("e", "was"), is("n", "64"), is("w", "was")}
	for i, s := range []struct {
		p    part.Part
		made []store.Write
	}{
		{add("n", 7), []store.Write{is("n", "71")}},
		{take("n", 7), []store.Write{is("n", "57")}},
		{write("w", "is"), []store.Write{is("w", "is")}},
		{erase("e"), []store.Write{{Key: "e"}}},
		{read("e"), nil},
		{write("new", "x"), []store.Write{is("new", "x")}},
	} {
		d := id(one, uint32(2*i+1))
		does(t, c, call(d, s.p, in(1, read("b"))), reply(d, part.Undone, ""))
		holds(t, c, then...)
		told := part.Res{Value: "told"}
		does(t, c, asCheck(call(id(one, d.Seq+1), s.p, in(1, read("b"))), told, s.made...), reply(id(one, d.Seq+1), part.Undone, ""))
		holds(t, c, then...)
		if r, ok := c.Res(d); !ok || r != (part.Res{Code: part.Undone}) || c.Waits(below(t, d)) || len(c.Pending()) != 64 {
			t.Errorf("%s: %v, %v", part.Show(s.p), r, ok)
		}
	}
	// calls of one part go on, and when one came back another one may wait
	does(t, c, call(id(one, 13), add("n", 1)), reply(id(one, 13), part.Done, "65"))
	first := id(ident.Proc{Node: 5, Life: 1}, 1)
	does(t, c, back(below(t, first), part.Done, ""), reply(first, part.Done, "1,"))
	d := id(one, 14)
	does(t, c, call(d, add("n", 1), in(1, read("b"))), ask(below(t, d), 0, in(1, read("b"))))
	does(t, c, call(id(one, 15), add("n", 1), in(1, read("b"))), reply(id(one, 15), part.Undone, ""))
}

// P1602: what comes back is joined, and what was not done lets the first part be undone ahead of that.
func TestP1602Back(t *testing.T) {
	was := []entry.Entry{call(id(two, 1), write("w", "was")), call(id(two, 2), add("n", 10))}
	start := []store.Write{is("n", "10"), is("w", "was")}
	for _, s := range []struct {
		p     part.Part
		value string
		then  []store.Write
	}{
		{read("w"), "was", start},
		{write("w", "is"), "", []store.Write{is("n", "10"), is("w", "is")}},
		{write("x", "is"), "", []store.Write{is("n", "10"), is("w", "was"), is("x", "is")}},
		{erase("w"), "was", []store.Write{is("n", "10")}},
		{erase("x"), "", start},
		{add("n", 3), "13", []store.Write{is("n", "13"), is("w", "was")}},
		{take("n", 3), "7", []store.Write{is("n", "7"), is("w", "was")}},
	} {
		for code := uint8(part.Done); code <= part.Full; code++ {
			d := id(one, 1)
			c := of(4, was...)
			does(t, c, call(d, s.p, in(1, read("b"))), ask(below(t, d), 0, in(1, read("b"))))
			holds(t, c, s.then...)
			if code == part.Done {
				does(t, c, back(below(t, d), code, "b"), reply(d, part.Done, s.value+",b"))
				holds(t, c, s.then...)
			} else {
				does(t, c, back(below(t, d), code, "b"), reply(d, part.Undone, "b"))
				holds(t, c, start...)
			}
			if c.Waits(below(t, d)) || c.State(d) != amo.Ended || len(c.Pending()) != 0 {
				t.Errorf("%s, %d came back: it waits still", part.Show(s.p), code)
			}
			// it comes back once
			does(t, c, back(below(t, d), code, "b"))
			does(t, c, back(below(t, d), part.Poor, ""))
		}
	}
}

// P1602: undone is the part, not what others did to its key meanwhile.
func TestP1602BackMeanwhile(t *testing.T) {
	a, b := id(one, 1), id(two, 1)
	c := core.New(group, 4)
	does(t, c, call(a, add("n", 5), in(1, read("b"))), ask(below(t, a), 0, in(1, read("b"))))
	does(t, c, call(b, add("n", 7), in(3, read("b"))), ask(below(t, b), 0, in(3, read("b"))))
	does(t, c, back(below(t, a), part.Poor, ""), reply(a, part.Undone, ""))
	holds(t, c, is("n", "7"))
	does(t, c, back(below(t, b), part.Done, "1"), reply(b, part.Done, "12,1"))
	holds(t, c, is("n", "7"))
	// what is no number any more can't be taken back; the result is the same
	a, b = id(one, 2), id(two, 2)
	does(t, c, call(a, take("n", 5), in(1, read("b"))), ask(below(t, a), 0, in(1, read("b"))))
	does(t, c, call(b, write("n", "x")), reply(b, part.Done, ""))
	does(t, c, back(below(t, a), part.Full, "f"), reply(a, part.Undone, "f"))
	holds(t, c, is("n", "x"))
}

// P1602: nothing comes of a Back that nobody waits for.
func TestP1602BackOfNone(t *testing.T) {
	d := id(one, 1)
	c := of(4, call(d, add("a", 1), in(1, read("b"))), call(id(one, 2), read("a")))
	for _, child := range []ident.ID{
		below(t, id(one, 2)),
		below(t, id(one, 3)),
		below(t, id(again, 1)),
		id(one, 1, ident.Step{Group: group, Index: 1}),
		id(one, 1, ident.Step{Group: group, Index: 255}),
		below(t, below(t, d)),
		id(one, 1, ident.Step{}, ident.Step{Group: group}),
	} {
		before := c.Clone()
		before.Do(entry.Entry{})
		does(t, c, back(child, part.Poor, "x"))
		if !c.Same(before) {
			t.Errorf("Back of %v: something has changed", child)
		}
	}
	does(t, c, back(below(t, d), part.Done, ""), reply(d, part.Done, "1,"))
}

// P1602: a group may ask itself: the child is a call of its own, beside the one that waits for it.
func TestP1602AsksItself(t *testing.T) {
	d := id(one, 1)
	child := below(t, d)
	c := core.New(group, 4)
	does(t, c, call(d, add("a", 1), add("a", 2), add("a", 4)), ask(child, 0, add("a", 2), add("a", 4)))
	does(t, c, call(child, add("a", 2), add("a", 4)), ask(below(t, child), 0, add("a", 4)))
	does(t, c, call(below(t, child), add("a", 4)), reply(below(t, child), part.Done, "7"))
	does(t, c, back(below(t, child), part.Done, "7"), reply(child, part.Done, "3,7"))
	does(t, c, back(child, part.Done, "3,7"), reply(d, part.Done, "1,3,7"))
	holds(t, c, is("a", "7"))
}

// P1602: a call that grew old while it waited is replied, and noted no more.
func TestP1602BackOfAnOldOne(t *testing.T) {
	d := id(one, 1)
	c := of(4, call(d, add("a", 1), in(1, read("b"))), floored(id(one, 2), 1, read("a")))
	if c.State(d) != amo.Running {
		t.Error("it does not run")
	}
	does(t, c, back(below(t, d), part.Dead, ""), reply(d, part.Undone, ""))
	if _, ok := c.Res(d); ok || c.State(d) != amo.Old {
		t.Error("it is noted still")
	}
	holds(t, c, is("a", "0"))
}

// P1602: behind a Kill nothing comes of what the victim asks for, in its life or one ahead; of its later lives it does.
func TestP1602Kill(t *testing.T) {
	c := core.New(group, 8)
	does(t, c, call(id(again, 1), add("a", 1)), reply(id(again, 1), part.Done, "1"))
	does(t, c, call(id(again, 2), add("a", 1), in(1, read("b"))), ask(below(t, id(again, 2)), 0, in(1, read("b"))))
	does(t, c, kill(again))
	next := ident.Proc{Node: again.Node, Life: again.Life + 1}
	for _, p := range []ident.Proc{one, again} {
		for _, d := range []ident.ID{id(p, 5), id(p, 5, ident.Step{}), id(p, 5, ident.Step{Group: 1}, ident.Step{Group: 3, Index: 2})} {
			does(t, c, call(d, add("a", 1)))
			does(t, c, call(d, add("a", 1), in(1, read("b"))))
			does(t, c, asCheck(call(d, add("a", 1)), part.Res{Value: "2"}, is("a", "2")))
			if c.State(d) == amo.Running || c.State(d) == amo.Ended {
				t.Errorf("%v is noted", d)
			}
		}
	}
	if r, ok := c.Res(id(again, 1)); !ok || r != (part.Res{Value: "1"}) {
		t.Error("what it was answered is forgotten", r, ok)
	}
	does(t, c, call(id(next, 1), add("a", 1)), reply(id(next, 1), part.Done, "3"))
	does(t, c, call(id(two, 1), add("a", 1)), reply(id(two, 1), part.Done, "4"))
	// what it had asked for ahead of that comes back
	does(t, c, back(below(t, id(again, 2)), part.Dead, ""), reply(id(again, 2), part.Undone, ""))
	holds(t, c, is("a", "3"))
	// to kill an elder life brings nobody back
	does(t, c, kill(one))
	does(t, c, call(id(again, 6), add("a", 1)))
	does(t, c, kill(next))
	does(t, c, call(id(next, 2), add("a", 1)))
	holds(t, c, is("a", "3"))
}

// P1603: the Check of a Call, which is as its first part would come to now; nothing changes.
func TestP1603Check(t *testing.T) {
	c := of(8, call(id(one, 1), add("n", 5)), call(id(one, 2), write("w", "x")), kill(two))
	before := c.Clone()
	for _, s := range []struct {
		p      part.Part
		res    part.Res
		writes []store.Write
	}{
		{read("n"), part.Res{Value: "5"}, nil},
		{read("none"), part.Res{}, nil},
		{add("n", 2), part.Res{Value: "7"}, []store.Write{is("n", "7")}},
		{take("n", 2), part.Res{Value: "3"}, []store.Write{is("n", "3")}},
		{take("n", 6), part.Res{Code: part.Poor}, nil},
		{add("w", 6), part.Res{Code: part.Odd}, nil},
		{write("w", "y"), part.Res{}, []store.Write{is("w", "y")}},
		{erase("w"), part.Res{Value: "x"}, []store.Write{{Key: "w"}}},
		{erase("none"), part.Res{}, []store.Write{{Key: "none"}}},
	} {
		// also of one that began, that is far, that is dead, and of a child
		for _, d := range []ident.ID{id(one, 3), id(one, 1), id(one, 999), id(two, 1), id(one, 3, ident.Step{Group: 1})} {
			for n := range 3 {
				e := floored(d, d.Seq-1, append([]part.Part{s.p}, in(1, read("b")), read("c"))[:1+n]...)
				if d.Seq == 1 {
					e.Floor = 0
				}
				want := asCheck(e, s.res, s.writes...)
				got, err := c.Check(e)
				if err != api.OK || !entry.Same(got, want) || !got.Right(group) {
					t.Errorf("Check(%s): %v, %d", entry.Show(e), got, err)
				}
			}
		}
	}
	if !c.Same(before) {
		t.Error("something has changed")
	}
	does(t, c, call(id(one, 3), add("n", 2)), reply(id(one, 3), part.Done, "7"))
	if k, _ := c.Check(call(id(one, 4), add("n", 2))); k.Res.Value != "9" {
		t.Error("a Check is not of now", k)
	}
}

// P1603: what is no Call, or not right.
func TestP1603CheckOfWrongOnes(t *testing.T) {
	d := id(one, 1)
	c := of(4, call(id(two, 1), add("a", 1), in(1, read("b"))))
	before := c.Clone()
	for i, e := range []entry.Entry{
		{},
		asCheck(call(d, add("a", 1)), part.Res{Value: "2"}, is("a", "2")),
		asCheck(call(d, add("a", 1)), part.Res{}),
		back(below(t, id(two, 1)), part.Done, ""),
		kill(one),
		{Kind: 4, ID: d, Parts: []part.Part{add("a", 1)}},
		call(d),
		call(d, in(1, add("a", 1))),
		call(d, add("a", -1)),
		call(id(one, 0), add("a", 1)),
		floored(d, 1, add("a", 1)),
		call(id(one, 1, ident.Step{}, ident.Step{}, ident.Step{}), add("a", 1), read("b")),
		{Kind: entry.Call, ID: d, Parts: []part.Part{add("a", 1)}, Writes: []store.Write{is("a", "2")}},
		{Kind: entry.Call, ID: d, Parts: []part.Part{add("a", 1)}, Res: part.Res{Value: "2"}},
	} {
		if got, err := c.Check(e); err != api.ErrArg || !entry.Same(got, entry.Entry{}) {
			t.Errorf("%d: %v, %d", i, got, err)
		}
	}
	if !c.Same(before) {
		t.Error("something has changed")
	}
}
