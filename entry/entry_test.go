package entry_test

import (
	"math"
	"slices"
	"strings"
	"testing"

	"gemot/api"
	"gemot/entry"
	"gemot/ident"
	"gemot/part"
	"gemot/store"
)

var (
	client    = ident.Proc{Node: 1, Life: 1}
	longKey   = strings.Repeat("k", api.MaxKey)
	longValue = strings.Repeat("v", api.MaxValue)
)

// id is a call of client, with these groups as steps, each the call of its place among them.
func id(seq uint32, groups ...uint8) ident.ID {
	d := ident.ID{Client: client, Seq: seq, Depth: uint8(len(groups))}
	for i, g := range groups {
		d.Path[i] = ident.Step{Group: g, Index: uint8(i)}
	}
	return d
}

// parts are n right parts, the first one for the group.
func parts(group uint8, n int) []part.Part {
	l := []part.Part{
		{Group: group, Kind: part.Take, Key: "a", N: 5},
		{Group: 1, Kind: part.Add, Key: "b", N: 5},
		{Group: 2, Kind: part.Write, Key: longKey, Value: longValue},
		{Group: 3, Kind: part.Read, Key: "c"},
		{Group: 0, Kind: part.Erase, Key: "d"},
	}
	return l[:n]
}

// call is a Call of group 0.
func call() entry.Entry {
	return entry.Entry{Kind: entry.Call, ID: id(5), Floor: 2, Parts: parts(0, 2)}
}

// back is a Back of group 2.
func back() entry.Entry {
	return entry.Entry{Kind: entry.Back, ID: id(5, 0, 2), Res: part.Res{Code: part.Poor, Value: "x"}}
}

func kill() entry.Entry {
	return entry.Entry{Kind: entry.Kill, Victim: client}
}

// check is a Check of group 0.
func check() entry.Entry {
	return entry.Entry{
		Kind: entry.Check, ID: id(5), Floor: 2, Parts: parts(0, 2),
		Res: part.Res{Value: "3"}, Writes: []store.Write{{Key: "a", Value: "3", Has: true}},
	}
}

// but is e with one thing changed.
func but(e entry.Entry, change func(e *entry.Entry)) entry.Entry {
	e = entry.Clone(e)
	change(&e)
	return e
}

type placed struct {
	group uint8
	e     entry.Entry
}

// rightOnes are right entries of all kinds, each with its group.
func rightOnes() []placed {
	l := []placed{
		{0, call()}, {2, back()}, {0, kill()}, {0, check()},
		{0, but(call(), func(e *entry.Entry) { e.Floor = 0 })},
		{0, but(call(), func(e *entry.Entry) { e.Floor = 4 })},
		{0, but(call(), func(e *entry.Entry) { e.ID.Seq, e.Floor = 1, 0 })},
		{0, but(call(), func(e *entry.Entry) { e.ID.Seq, e.Floor = api.MaxSeq, api.MaxSeq-1 })},
		{0, but(call(), func(e *entry.Entry) { e.Res, e.Writes = part.Res{}, []store.Write{} })},
		{3, but(kill(), func(e *entry.Entry) { e.Victim = ident.Proc{Node: api.MaxNodes - 1, Life: math.MaxUint16} })},
		{3, but(kill(), func(e *entry.Entry) { e.Parts, e.Writes = []part.Part{}, []store.Write{} })},
	}
	for group := range uint8(api.MaxGroups) {
		for depth := range api.MaxDepth + 1 {
			d := id(5, []uint8{3, 0, 1}[:depth]...)
			for n := 1; depth+n <= api.MaxParts; n++ {
				l = append(l, placed{group, entry.Entry{Kind: entry.Call, ID: d, Parts: parts(group, n)}})
				l = append(l, placed{group, but(check(), func(e *entry.Entry) { e.ID, e.Parts = d, parts(group, n) })})
			}
			if depth > 0 {
				for code := range uint8(part.Full + 1) {
					e := entry.Entry{Kind: entry.Back, ID: d, Res: part.Res{Code: code, Value: strings.Repeat("x", int(code)*200)}}
					l = append(l, placed{d.Path[depth-1].Group, e})
				}
			}
		}
	}
	return append(l, rightChecks()...)
}

// rightChecks are Checks of each kind of part, with what it may come to.
func rightChecks() []placed {
	var l []placed
	for _, p := range []part.Part{
		{Kind: part.Read, Key: "a"},
		{Kind: part.Write, Key: longKey, Value: longValue},
		{Kind: part.Add, Key: "a", N: 1},
		{Kind: part.Take, Key: "a", N: 1},
		{Kind: part.Erase, Key: "a"},
	} {
		for _, code := range []uint8{part.Poor, part.Odd, part.Full} {
			l = append(l, placed{0, entry.Entry{Kind: entry.Check, ID: id(5), Parts: []part.Part{p}, Res: part.Res{Code: code}}})
		}
		e := entry.Entry{Kind: entry.Check, ID: id(5), Parts: []part.Part{p}, Res: part.Res{Value: strings.Repeat("x", 1000)}}
		if p.Kind == part.Read {
			l = append(l, placed{0, e})
			continue
		}
		for _, w := range []store.Write{{Key: p.Key}, {Key: p.Key, Has: true}, {Key: p.Key, Value: longValue, Has: true}} {
			l = append(l, placed{0, but(e, func(e *entry.Entry) { e.Writes = []store.Write{w} })})
		}
	}
	return l
}

// The kinds' numbers, as the chapter tells them.
func TestKinds(t *testing.T) {
	if entry.Call != 0 || entry.Back != 1 || entry.Kill != 2 || entry.Check != 3 {
		t.Error("kinds")
	}
}

// P502: right entries, in their group.
func TestP502Right(t *testing.T) {
	for _, x := range rightOnes() {
		if !x.e.Right(x.group) {
			t.Errorf("%d: %#v is not right", x.group, x.e)
		}
	}
}

// P502: an entry of another group is not right; a Kill names no group.
func TestP502OtherGroup(t *testing.T) {
	for _, x := range rightOnes() {
		for group := range 256 {
			want := group == int(x.group) || x.e.Kind == entry.Kill
			if x.e.Right(uint8(group)) != want {
				t.Fatalf("%#v in group %d", x.e, group)
			}
		}
	}
}

// P502: what a Call and a Check have both: each of these is wrong in one thing.
func TestP502AskedWrong(t *testing.T) {
	changes := map[string]func(e *entry.Entry){
		"no call":            func(e *entry.Entry) { e.ID = ident.ID{} },
		"call 0":             func(e *entry.Entry) { e.ID.Seq, e.Floor = 0, 0 },
		"a call too far":     func(e *entry.Entry) { e.ID.Seq = api.MaxSeq + 1 },
		"no life":            func(e *entry.Entry) { e.ID.Client.Life = 0 },
		"no node":            func(e *entry.Entry) { e.ID.Client.Node = api.MaxNodes },
		"too deep":           func(e *entry.Entry) { e.ID.Depth, e.Parts = api.MaxDepth+1, parts(0, 1) },
		"far too deep":       func(e *entry.Entry) { e.ID.Depth, e.Parts = 255, parts(0, 1) },
		"a step behind":      func(e *entry.Entry) { e.ID.Path[0].Index = 1 },
		"no group's step":    func(e *entry.Entry) { e.ID = id(5, api.MaxGroups) },
		"no parts":           func(e *entry.Entry) { e.Parts = nil },
		"none of its parts":  func(e *entry.Entry) { e.Parts = []part.Part{} },
		"five parts":         func(e *entry.Entry) { e.Parts = parts(0, 5) },
		"a wrong first part": func(e *entry.Entry) { e.Parts[0].N = -1 },
		"a wrong last part":  func(e *entry.Entry) { e.Parts[1].Group = api.MaxGroups },
		"another's part":     func(e *entry.Entry) { e.Parts[0].Group = 1 },
		"1 step, 4 parts":    func(e *entry.Entry) { e.ID, e.Parts = id(5, 0), parts(0, 4) },
		"2 steps, 3 parts":   func(e *entry.Entry) { e.ID, e.Parts = id(5, 0, 1), parts(0, 3) },
		"3 steps, 2 parts":   func(e *entry.Entry) { e.ID, e.Parts = id(5, 0, 1, 2), parts(0, 2) },
		"its own floor":      func(e *entry.Entry) { e.Floor = 5 },
		"a floor ahead":      func(e *entry.Entry) { e.Floor = 6 },
		"the greatest floor": func(e *entry.Entry) { e.Floor = math.MaxUint32 },
		"a victim":           func(e *entry.Entry) { e.Victim = client },
		"half a victim":      func(e *entry.Entry) { e.Victim.Life = 1 },
	}
	for name, change := range changes {
		for _, e := range []entry.Entry{call(), check()} {
			if but(e, change).Right(0) {
				t.Errorf("%s, of kind %d", name, e.Kind)
			}
		}
	}
}

// P502: what a Call has no field for.
func TestP502CallWithMore(t *testing.T) {
	for _, e := range []entry.Entry{
		but(call(), func(e *entry.Entry) { e.Res.Value = "5" }),
		but(call(), func(e *entry.Entry) { e.Res.Code = part.Poor }),
		but(call(), func(e *entry.Entry) { e.Writes = check().Writes }),
		but(call(), func(e *entry.Entry) { e.Writes = make([]store.Write, 1) }),
	} {
		if e.Right(0) {
			t.Errorf("%#v", e)
		}
	}
}

// P502: what a Check may not have come to.
func TestP502CheckWrong(t *testing.T) {
	changes := map[string]func(e *entry.Entry){
		"Undone":            func(e *entry.Entry) { e.Res, e.Writes = part.Res{Code: part.Undone}, nil },
		"Dead":              func(e *entry.Entry) { e.Res, e.Writes = part.Res{Code: part.Dead}, nil },
		"no code":           func(e *entry.Entry) { e.Res, e.Writes = part.Res{Code: part.Full + 1}, nil },
		"a long result":     func(e *entry.Entry) { e.Res.Value = strings.Repeat("x", 1001) },
		"no write":          func(e *entry.Entry) { e.Writes = nil },
		"none of writes":    func(e *entry.Entry) { e.Writes = []store.Write{} },
		"two writes":        func(e *entry.Entry) { e.Writes = append(e.Writes, e.Writes[0]) },
		"another key":       func(e *entry.Entry) { e.Writes[0].Key = "b" },
		"no key":            func(e *entry.Entry) { e.Writes[0].Key = "" },
		"a key's beginning": func(e *entry.Entry) { e.Parts[0].Key = "ab" },
		"a long key":        func(e *entry.Entry) { e.Writes[0].Key, e.Parts[0].Key = longKey+"k", longKey+"k" },
		"a long value":      func(e *entry.Entry) { e.Writes[0].Value = longValue + "v" },
		"Poor and a write":  func(e *entry.Entry) { e.Res.Code = part.Poor },
		"Odd and a write":   func(e *entry.Entry) { e.Res.Code = part.Odd },
		"Full and a write":  func(e *entry.Entry) { e.Res.Code = part.Full },
		"Read and a write":  func(e *entry.Entry) { e.Parts[0] = part.Part{Key: "a"} },
		"the second's key":  func(e *entry.Entry) { e.Writes[0].Key = e.Parts[1].Key },
		"a gone value":      func(e *entry.Entry) { e.Writes[0].Has = false },
		"a gone byte":       func(e *entry.Entry) { e.Writes[0] = store.Write{Key: "a", Value: "\x00"} },
		"a long gone value": func(e *entry.Entry) { e.Writes[0] = store.Write{Key: "a", Value: longValue} },
		"an Erase's value":  func(e *entry.Entry) { e.Parts[0], e.Writes[0].Has = part.Part{Kind: part.Erase, Key: "a"}, false },
		"an Add's value":    func(e *entry.Entry) { e.Parts[0].Kind, e.Writes[0].Has = part.Add, false },
		"a Write's value": func(e *entry.Entry) {
			e.Parts[0], e.Writes[0].Has = part.Part{Kind: part.Write, Key: "a", Value: "3"}, false
		},
		"a Read of no part": func(e *entry.Entry) { e.Parts, e.Writes = nil, nil },
	}
	for name, change := range changes {
		if but(check(), change).Right(0) {
			t.Error(name)
		}
	}
}

// P502: a Back that may not be.
func TestP502BackWrong(t *testing.T) {
	changes := map[string]func(e *entry.Entry){
		"no call":         func(e *entry.Entry) { e.ID = ident.ID{} },
		"a root":          func(e *entry.Entry) { e.ID = ident.Root(e.ID) },
		"call 0":          func(e *entry.Entry) { e.ID.Seq = 0 },
		"too deep":        func(e *entry.Entry) { e.ID.Depth = api.MaxDepth + 1 },
		"far too deep":    func(e *entry.Entry) { e.ID.Depth = 255 },
		"a step behind":   func(e *entry.Entry) { e.ID.Path[2] = ident.Step{Group: 2} },
		"another's call":  func(e *entry.Entry) { e.ID = id(5, 2, 0) },
		"no group's":      func(e *entry.Entry) { e.ID = id(5, api.MaxGroups, 2) },
		"no code":         func(e *entry.Entry) { e.Res.Code = part.Full + 1 },
		"a long result":   func(e *entry.Entry) { e.Res.Value = strings.Repeat("x", 1001) },
		"a floor":         func(e *entry.Entry) { e.Floor = 1 },
		"parts":           func(e *entry.Entry) { e.Parts = parts(2, 1) },
		"a write":         func(e *entry.Entry) { e.Writes = make([]store.Write, 1) },
		"a victim":        func(e *entry.Entry) { e.Victim = client },
		"a victim's node": func(e *entry.Entry) { e.Victim.Node = 1 },
	}
	for name, change := range changes {
		if but(back(), change).Right(2) {
			t.Error(name)
		}
	}
}

// P502: a Kill that may not be.
func TestP502KillWrong(t *testing.T) {
	changes := map[string]func(e *entry.Entry){
		"nobody":       func(e *entry.Entry) { e.Victim = ident.Proc{} },
		"no life":      func(e *entry.Entry) { e.Victim.Life = 0 },
		"no node":      func(e *entry.Entry) { e.Victim.Node = api.MaxNodes },
		"a call":       func(e *entry.Entry) { e.ID = id(5) },
		"a number":     func(e *entry.Entry) { e.ID.Seq = 1 },
		"a floor":      func(e *entry.Entry) { e.Floor = 1 },
		"parts":        func(e *entry.Entry) { e.Parts = parts(0, 1) },
		"a part":       func(e *entry.Entry) { e.Parts = make([]part.Part, 1) },
		"a code":       func(e *entry.Entry) { e.Res.Code = part.Dead },
		"a result":     func(e *entry.Entry) { e.Res.Value = "x" },
		"a write":      func(e *entry.Entry) { e.Writes = make([]store.Write, 1) },
		"a right one":  func(e *entry.Entry) { e.Writes = check().Writes },
		"a call's all": func(e *entry.Entry) { e.ID, e.Parts = call().ID, call().Parts },
	}
	for name, change := range changes {
		for group := range uint8(api.MaxGroups) {
			if but(kill(), change).Right(group) {
				t.Error(name)
			}
		}
	}
}

// P502: there is no other kind, whatever it has.
func TestP502OtherKinds(t *testing.T) {
	for kind := 4; kind < 256; kind++ {
		for _, e := range []entry.Entry{{}, call(), back(), kill(), check()} {
			e.Kind = uint8(kind)
			for group := range uint8(api.MaxGroups) {
				if e.Right(group) {
					t.Errorf("kind %d: %#v", kind, e)
				}
			}
		}
	}
	for _, e := range []entry.Entry{call(), back(), kill(), check()} {
		for kind := range uint8(4) {
			was := e.Kind
			e.Kind = kind
			if kind != was && (e.Right(0) || e.Right(2)) {
				t.Errorf("%d as %d", was, kind)
			}
			e.Kind = was
		}
	}
}

// P504: two entries are the same, if all fields are; nil and empty lists are.
func TestP504Same(t *testing.T) {
	changes := []func(e *entry.Entry){
		func(e *entry.Entry) { e.Kind += 4 },
		func(e *entry.Entry) { e.ID.Seq++ },
		func(e *entry.Entry) { e.ID.Client.Life++ },
		func(e *entry.Entry) { e.ID.Depth++ },
		func(e *entry.Entry) { e.ID.Path[2].Index++ },
		func(e *entry.Entry) { e.Floor++ },
		func(e *entry.Entry) { e.Parts = append(e.Parts, part.Part{}) },
		func(e *entry.Entry) { e.Res.Code++ },
		func(e *entry.Entry) { e.Res.Value += "x" },
		func(e *entry.Entry) { e.Writes = append(e.Writes, store.Write{}) },
		func(e *entry.Entry) { e.Victim.Node++ },
		func(e *entry.Entry) { e.Victim.Life++ },
	}
	for _, x := range []entry.Entry{{}, call(), back(), kill(), check()} {
		if !entry.Same(x, x) || !entry.Same(x, entry.Clone(x)) {
			t.Errorf("%#v is not itself", x)
		}
		for i, change := range changes {
			if y := but(x, change); entry.Same(x, y) || entry.Same(y, x) {
				t.Errorf("change %d of %#v", i, x)
			}
		}
	}
	for i, change := range []func(e *entry.Entry){
		func(e *entry.Entry) { e.Parts[1].N++ },
		func(e *entry.Entry) { e.Parts[0], e.Parts[1] = e.Parts[1], e.Parts[0] },
		func(e *entry.Entry) { e.Writes[0].Has = false },
		func(e *entry.Entry) { e.Writes[0].Key = "" },
		func(e *entry.Entry) { e.Writes[0].Value = "" },
	} {
		if entry.Same(check(), but(check(), change)) {
			t.Errorf("change %d of a list", i)
		}
	}
	if !entry.Same(entry.Entry{}, entry.Entry{Parts: []part.Part{}, Writes: []store.Write{}}) {
		t.Error("nil and empty lists are not the same")
	}
}

// P504: lists are the same by their elements, in order.
func TestP504SameAll(t *testing.T) {
	l := []entry.Entry{call(), back(), kill(), check()}
	cases := []struct {
		a, b []entry.Entry
		want bool
	}{
		{nil, nil, true},
		{nil, []entry.Entry{}, true},
		{l, []entry.Entry{call(), back(), kill(), check()}, true},
		{l, l[:3], false},
		{nil, l[:1], false},
		{l[:1], make([]entry.Entry, 1), false},
		{l, []entry.Entry{call(), kill(), back(), check()}, false},
		{l, []entry.Entry{call(), back(), kill(), but(check(), func(e *entry.Entry) { e.Floor = 0 })}, false},
	}
	for i, c := range cases {
		if entry.SameAll(c.a, c.b) != c.want || entry.SameAll(c.b, c.a) != c.want {
			t.Errorf("case %d", i)
		}
	}
}

// P501: a clone shares nothing, and what was cloned is as it was.
func TestP501Clone(t *testing.T) {
	for _, x := range rightOnes() {
		if c := entry.Clone(x.e); !entry.Same(c, x.e) || !c.Right(x.group) {
			t.Errorf("%#v is the clone of %#v", c, x.e)
		}
	}
	room := append(make([]part.Part, 0, 8), parts(0, 2)...)
	writes := append(make([]store.Write, 0, 8), check().Writes...)
	e := but(check(), func(e *entry.Entry) {})
	e.Parts, e.Writes = room, writes
	c := entry.Clone(e)
	c.Parts[0].Key, c.Writes[0].Key = "z", "z"
	_, _ = append(c.Parts, part.Part{Key: "y"}), append(c.Writes, store.Write{Key: "y"})
	if !entry.Same(e, check()) || room[:3][2] != (part.Part{}) || writes[:2][1] != (store.Write{}) {
		t.Errorf("a clone writes into what was cloned: %#v", e)
	}
	c = entry.Clone(e)
	e.Parts[1].Key, e.Writes[0].Value = "z", "z"
	_, _ = append(e.Parts[:0], part.Part{}), append(e.Writes[:0], store.Write{})
	if !entry.Same(c, check()) {
		t.Errorf("what was cloned writes into the clone: %#v", c)
	}
	_ = append(entry.Clone(entry.Entry{Parts: room[:0], Writes: writes[:0]}).Parts, part.Part{Key: "x"})
	if room[0].Key == "x" {
		t.Error("a clone without parts has the room of what was cloned")
	}
}

// P504: entries as text.
func TestP504Show(t *testing.T) {
	cases := []struct {
		e    entry.Entry
		want string
	}{
		{entry.Entry{Kind: entry.Call, ID: id(5), Parts: parts(0, 1)}, "Call 1.1/5 0:Take(a-5)"},
		{call(), "Call 1.1/5 0:Take(a-5) 1:Add(b+5)"},
		{check(), "Check 1.1/5 0:Take(a-5) 1:Add(b+5)"},
		{back(), "Back 1.1/5/0.0/2.1"},
		{kill(), "Kill 1.1"},
		{entry.Entry{Kind: entry.Kill, Victim: ident.Proc{Node: 15, Life: 65535}}, "Kill 15.65535"},
		{entry.Entry{Kind: entry.Call, ID: id(api.MaxSeq, 3, 1, 2), Parts: parts(3, 1)}, "Call 1.1/1048576/3.0/1.1/2.2 3:Take(a-5)"},
		{entry.Entry{Kind: entry.Back, ID: ident.ID{Client: client, Seq: 7, Depth: 1, Path: [3]ident.Step{{Group: 0, Index: 255}}}}, "Back 1.1/7/0.255"},
		{entry.Entry{}, "Call 0.0/0"},
		{entry.Entry{ID: ident.ID{Client: ident.Proc{Node: 255, Life: 1}, Seq: math.MaxUint32}, Parts: []part.Part{{Kind: 9}}}, "Call 255.1/4294967295 0:?"},
		{entry.Entry{Kind: 4, ID: id(5)}, ""},
		{entry.Entry{Kind: 255}, ""},
	}
	for _, c := range cases {
		if got := entry.Show(c.e); got != c.want {
			t.Errorf("%q, not %q", got, c.want)
		}
	}
	for depth := range 256 { // an identifier that may not be has a text, too
		d := id(5, 1, 2, 3)
		d.Depth = uint8(depth)
		want := "Call 1.1/5" + "/1.0/2.1/3.2"[:4*min(depth, 3)]
		if got := entry.Show(entry.Entry{ID: d}); got != want {
			t.Errorf("depth %d: %q", depth, got)
		}
	}
}

// P501: what is asked is not changed by it.
func TestP501NothingChanges(t *testing.T) {
	l := []entry.Entry{call(), back(), kill(), check()}
	for i := range l {
		l[i].Right(0)
		entry.Show(l[i])
		entry.Same(l[i], l[0])
		entry.Clone(l[i])
	}
	if !entry.SameAll(l, []entry.Entry{call(), back(), kill(), check()}) || !slices.Equal(l[0].Parts, parts(0, 2)) {
		t.Errorf("%#v", l)
	}
}
