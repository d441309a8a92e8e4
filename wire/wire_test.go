package wire_test

import (
	"math"
	"slices"
	"strings"
	"testing"

	"gemot/api"
	"gemot/entry"
	"gemot/ident"
	"gemot/part"
	"gemot/store"
	"gemot/view"
	"gemot/wire"
)

// proc is a process.
func proc(node uint8, life uint16) ident.Proc {
	return ident.Proc{Node: node, Life: life}
}

// nodes are the first n of all nodes, in their first life.
func nodes(n int) []ident.Proc {
	var l []ident.Proc
	for i := range n {
		l = append(l, proc(uint8(i), 1))
	}
	return l
}

// id is call 5 of client 9.1, with these groups as steps.
func id(groups ...uint8) ident.ID {
	d := ident.ID{Client: proc(9, 1), Seq: 5, Depth: uint8(len(groups))}
	for i, g := range groups {
		d.Path[i] = ident.Step{Group: g, Index: uint8(i)}
	}
	return d
}

// parts are n right parts, the first one for the group.
func parts(group uint8, n int) []part.Part {
	l := []part.Part{
		{Group: group, Kind: part.Take, Key: "a", N: 5},
		{Group: 2, Kind: part.Add, Key: "b", N: 5},
		{Group: 3, Kind: part.Write, Key: strings.Repeat("k", api.MaxKey), Value: strings.Repeat("v", api.MaxValue)},
		{Group: 0, Kind: part.Read, Key: "c"},
		{Group: 0, Kind: part.Erase, Key: "d"},
	}
	return l[:n]
}

func kill() entry.Entry {
	return entry.Entry{Kind: entry.Kill, Victim: proc(9, 1)}
}

func kills(n int) []entry.Entry {
	return slices.Repeat([]entry.Entry{kill()}, n)
}

// entries are one of each kind, in the order of the group.
func entries(group uint8) []entry.Entry {
	return []entry.Entry{
		{Kind: entry.Call, ID: id(), Floor: 2, Parts: parts(group, 2)},
		{Kind: entry.Back, ID: id(group), Res: part.Res{Code: part.Poor, Value: "x"}},
		kill(),
		{Kind: entry.Check, ID: id(3), Parts: parts(group, 1), Res: part.Res{Value: "3"}, Writes: []store.Write{{Key: "a", Value: "3", Has: true}}},
	}
}

func members() []ident.Proc {
	return []ident.Proc{proc(0, 1), proc(2, 1)}
}

func seen() view.View {
	return view.View{Group: 1, N: 300, Members: members()}
}

// The messages of these tests, one of each kind (and a Promise without a value).
func ask() wire.Msg {
	return wire.Msg{Kind: wire.Ask, Group: 1, ID: id(), Floor: 2, Parts: parts(1, 2)}
}

func answer() wire.Msg {
	return wire.Msg{Kind: wire.Answer, ID: id(), Res: part.Res{Value: "3"}, View: seen()}
}

func refuse() wire.Msg {
	return wire.Msg{Kind: wire.Refuse, ID: id(), Code: 14}
}

func appended() wire.Msg {
	return wire.Msg{Kind: wire.Append, Group: 1, N: 2, From: 3, Commit: 300, Entries: kills(1)}
}

func acked() wire.Msg {
	return wire.Msg{Kind: wire.Acked, Group: 1, N: 2, From: 300}
}

func ballot(kind uint8) wire.Msg {
	return wire.Msg{Kind: kind, Group: 1, N: 2, Ballot: 300}
}

func empty() wire.Msg {
	return wire.Msg{Kind: wire.Promise, Group: 1, N: 2, Ballot: 300, Entries: kills(2)}
}

func promise() wire.Msg {
	return wire.Msg{Kind: wire.Promise, Group: 1, N: 2, Ballot: 300, Entries: kills(2), Has: true, Acc: 257, Members: members(), Tail: kills(1)}
}

func propose() wire.Msg {
	return wire.Msg{Kind: wire.Propose, Group: 1, N: 2, Ballot: 300, Members: members(), Tail: kills(1)}
}

func install() wire.Msg {
	return wire.Msg{Kind: wire.Install, View: seen(), Entries: kills(1)}
}

func about(kind uint8) wire.Msg {
	return wire.Msg{Kind: kind, Group: 1, Proc: proc(5, 2)}
}

func messages() []wire.Msg {
	return []wire.Msg{
		ask(), answer(), refuse(), appended(), acked(), ballot(wire.Prepare), ballot(wire.Accept), ballot(wire.Nack),
		empty(), promise(), propose(), install(), about(wire.Join), about(wire.Leave), about(wire.Slay),
	}
}

// but is m with one thing changed.
func but(m wire.Msg, change func(m *wire.Msg)) wire.Msg {
	change(&m)
	return m
}

// field is one of a message's, with the kinds that have it, and values for it that are not zero, and not those of messages.
type field struct {
	name   string
	kinds  []uint8
	change []func(m *wire.Msg)
}

func fields() []field {
	numbered := []uint8{wire.Append, wire.Acked, wire.Prepare, wire.Accept, wire.Nack, wire.Promise, wire.Propose}
	named := []uint8{wire.Join, wire.Leave, wire.Slay}
	return []field{
		{"Group", slices.Concat([]uint8{wire.Ask}, numbered, named), []func(m *wire.Msg){func(m *wire.Msg) { m.Group = 2 }}},
		{"Code", []uint8{wire.Refuse}, []func(m *wire.Msg){func(m *wire.Msg) { m.Code = 1 }}},
		{"N", numbered, []func(m *wire.Msg){func(m *wire.Msg) { m.N = 1 }}},
		{"From", numbered[:2], []func(m *wire.Msg){func(m *wire.Msg) { m.From = 1 }}},
		{"Commit", numbered[:1], []func(m *wire.Msg){func(m *wire.Msg) { m.Commit = 1 }}},
		{"Floor", []uint8{wire.Ask}, []func(m *wire.Msg){func(m *wire.Msg) { m.Floor = 1 }}},
		{"Ballot", numbered[2:], []func(m *wire.Msg){func(m *wire.Msg) { m.Ballot = 1 }}},
		{"Acc", []uint8{wire.Promise}, []func(m *wire.Msg){func(m *wire.Msg) { m.Acc = 1 }}},
		{"ID", []uint8{wire.Ask, wire.Answer, wire.Refuse}, []func(m *wire.Msg){
			func(m *wire.Msg) { m.ID = id(1) }, func(m *wire.Msg) { m.ID = ident.ID{Seq: 1} }, func(m *wire.Msg) { m.ID = ident.ID{Path: [3]ident.Step{2: {Index: 1}}} },
		}},
		{"Parts", []uint8{wire.Ask}, []func(m *wire.Msg){func(m *wire.Msg) { m.Parts = parts(1, 1) }, func(m *wire.Msg) { m.Parts = []part.Part{{}} }}},
		{"Res", []uint8{wire.Answer}, []func(m *wire.Msg){func(m *wire.Msg) { m.Res.Code = 1 }, func(m *wire.Msg) { m.Res.Value = "x" }}},
		{"View", []uint8{wire.Answer, wire.Install}, []func(m *wire.Msg){
			func(m *wire.Msg) { m.View.Group = 2 }, func(m *wire.Msg) { m.View.N = 1 }, func(m *wire.Msg) { m.View.Members = []ident.Proc{{}} },
		}},
		{"Proc", named, []func(m *wire.Msg){func(m *wire.Msg) { m.Proc.Node = 1 }, func(m *wire.Msg) { m.Proc.Life = 1 }}},
		{"Has", []uint8{wire.Promise}, []func(m *wire.Msg){func(m *wire.Msg) { m.Has = !m.Has }}},
		{"Members", []uint8{wire.Promise, wire.Propose}, []func(m *wire.Msg){func(m *wire.Msg) { m.Members = nodes(1) }, func(m *wire.Msg) { m.Members = []ident.Proc{{}} }}},
		{"Entries", []uint8{wire.Append, wire.Promise, wire.Install}, []func(m *wire.Msg){func(m *wire.Msg) { m.Entries = entries(1) }, func(m *wire.Msg) { m.Entries = []entry.Entry{{}} }}},
		{"Tail", []uint8{wire.Promise, wire.Propose}, []func(m *wire.Msg){func(m *wire.Msg) { m.Tail = entries(1) }, func(m *wire.Msg) { m.Tail = []entry.Entry{{}} }}},
	}
}

// wrong tells of a message that is said not to be right: neither Right nor Bytes may take it.
func wrong(t *testing.T, name string, m wire.Msg) {
	t.Helper()
	if m.Right() {
		t.Errorf("%s: %+v is not right", name, m)
	}
	if b, e := wire.Bytes(m); e != api.ErrArg || len(b) != 0 {
		t.Errorf("%s: Bytes are %q, %d", name, b, e)
	}
}

// right tells of a message that is said to be right: it comes back from its bytes.
func right(t *testing.T, name string, m wire.Msg) {
	t.Helper()
	if !m.Right() {
		t.Errorf("%s: %+v is right", name, m)
	}
	b, e := wire.Bytes(m)
	if e != api.OK {
		t.Errorf("%s: Bytes: %d", name, e)
	}
	if got, e := wire.Read(b); e != api.OK || !wire.Same(got, m) {
		t.Errorf("%s: %+v came back, %d", name, got, e)
	}
}

// P702: a field that a kind does not have is zero.
func TestP702OtherFields(t *testing.T) {
	for _, m := range messages() {
		right(t, wire.Word(m.Kind), m)
		for _, f := range fields() {
			has := slices.Contains(f.kinds, m.Kind)
			for _, change := range f.change {
				if !has {
					wrong(t, wire.Word(m.Kind)+" with "+f.name, but(m, change))
				}
			}
		}
	}
}

// P702: lists without elements are none, nil or not.
func TestP702EmptyLists(t *testing.T) {
	for _, m := range messages() {
		same := but(m, func(m *wire.Msg) {
			if len(m.Parts) == 0 {
				m.Parts = []part.Part{}
			}
			if len(m.View.Members) == 0 {
				m.View.Members = []ident.Proc{}
			}
			if len(m.Members) == 0 {
				m.Members = []ident.Proc{}
			}
			if len(m.Entries) == 0 {
				m.Entries = []entry.Entry{}
			}
			if len(m.Tail) == 0 {
				m.Tail = []entry.Entry{}
			}
		})
		right(t, wire.Word(m.Kind), same)
		if !wire.Same(m, same) || !wire.Same(same, m) {
			t.Errorf("%s: an empty list is not none", wire.Word(m.Kind))
		}
	}
}

// P702: kinds that there are not.
func TestP702Kinds(t *testing.T) {
	wrong(t, "nothing", wire.Msg{})
	for kind := range 256 {
		wrong(t, "a kind alone", wire.Msg{Kind: uint8(kind)})
		if kind <= wire.Slay {
			continue
		}
		for _, m := range messages() {
			wrong(t, "no kind", but(m, func(m *wire.Msg) { m.Kind = uint8(kind) }))
		}
	}
}

// change is one thing that is changed in a message, and whether it is right then.
type change struct {
	name string
	m    wire.Msg
	do   func(m *wire.Msg)
	want bool
}

func look(t *testing.T, l []change) {
	t.Helper()
	for _, c := range l {
		if m := but(c.m, c.do); c.want {
			right(t, c.name, m)
		} else {
			wrong(t, c.name, m)
		}
	}
}

// P702: the group, and the view's number, of each kind that has them.
func TestP702GroupAndNumber(t *testing.T) {
	for _, m := range messages() {
		word := wire.Word(m.Kind)
		if slices.Contains(fields()[0].kinds, m.Kind) {
			look(t, []change{
				{word + " of group 0", m, func(m *wire.Msg) { ofGroup(m, 0) }, true},
				{word + " of group 3", m, func(m *wire.Msg) { ofGroup(m, 3) }, true},
				{word + " of group 4", m, func(m *wire.Msg) { ofGroup(m, api.MaxGroups) }, false},
				{word + " of group 255", m, func(m *wire.Msg) { ofGroup(m, 255) }, false},
			})
		}
		if slices.Contains(fields()[2].kinds, m.Kind) {
			look(t, []change{
				{word + " of view 0", m, func(m *wire.Msg) { m.N = 0 }, false},
				{word + " of view 1", m, func(m *wire.Msg) { m.N = 1 }, true},
				{word + " of the last view", m, func(m *wire.Msg) { m.N = math.MaxUint32 }, true},
			})
		}
		if slices.Contains(fields()[6].kinds, m.Kind) {
			look(t, []change{
				{word + " with no ballot", m, func(m *wire.Msg) { m.Ballot = 0 }, false},
				{word + " with the least ballot", m, func(m *wire.Msg) { m.Ballot = 1 }, true},
				{word + " with the greatest ballot", m, func(m *wire.Msg) { m.Ballot = math.MaxUint64 }, true},
			})
		}
	}
}

// ofGroup puts a message into another group, an Ask with its first part.
func ofGroup(m *wire.Msg, group uint8) {
	m.Group = group
	if m.Kind == wire.Ask {
		m.Parts = parts(group, 2)
	}
}

// P702: what may be asked.
func TestP702Ask(t *testing.T) {
	look(t, []change{
		{"another group's", ask(), func(m *wire.Msg) { m.Group = 0 }, false},
		{"another group's part", ask(), func(m *wire.Msg) { m.Parts = parts(0, 2) }, false},
		{"no parts", ask(), func(m *wire.Msg) { m.Parts = nil }, false},
		{"a part that is wrong", ask(), func(m *wire.Msg) { m.Parts = []part.Part{{Group: 1, Kind: part.Take, Key: "a", N: -1}} }, false},
		{"a later part that is wrong", ask(), func(m *wire.Msg) { m.Parts = append(parts(1, 1), part.Part{Group: 4, Key: "a"}) }, false},
		{"a call that may not be", ask(), func(m *wire.Msg) { m.ID.Seq = api.MaxSeq + 1 }, false},
		{"a client that may not be", ask(), func(m *wire.Msg) { m.ID.Client.Life = 0 }, false},
		{"a floor of 0", ask(), func(m *wire.Msg) { m.Floor = 0 }, true},
		{"a floor just below", ask(), func(m *wire.Msg) { m.Floor = 4 }, true},
		{"a floor as high", ask(), func(m *wire.Msg) { m.Floor = 5 }, false},
		{"a floor above", ask(), func(m *wire.Msg) { m.Floor = math.MaxUint32 }, false},
	})
	for depth := range api.MaxDepth + 1 {
		for n := range api.MaxParts + 2 {
			m := but(ask(), func(m *wire.Msg) { m.ID, m.Parts = id([]uint8{3, 0, 1}[:depth]...), parts(1, n) })
			if n > 0 && depth+n <= api.MaxParts {
				right(t, "depth and parts", m)
			} else {
				wrong(t, "depth and parts", m)
			}
		}
	}
	wrong(t, "a depth above all", but(ask(), func(m *wire.Msg) { m.ID.Depth = 255 }))
}

// P702: what may be answered, and refused.
func TestP702AnswerAndRefuse(t *testing.T) {
	look(t, []change{
		{"a child's", answer(), func(m *wire.Msg) { m.ID = id(1, 2, 3) }, true},
		{"a call that may not be", answer(), func(m *wire.Msg) { m.ID.Seq = 0 }, false},
		{"the last code", answer(), func(m *wire.Msg) { m.Res = part.Res{Code: part.Full} }, true},
		{"no code", answer(), func(m *wire.Msg) { m.Res = part.Res{Code: part.Full + 1} }, false},
		{"a long value", answer(), func(m *wire.Msg) { m.Res.Value = strings.Repeat("v", 1000) }, true},
		{"too long a value", answer(), func(m *wire.Msg) { m.Res.Value = strings.Repeat("v", 1001) }, false},
		{"no view", answer(), func(m *wire.Msg) { m.View = view.View{} }, false},
		{"a view of no group", answer(), func(m *wire.Msg) { m.View.Group = 4 }, false},
		{"a view of number 0", answer(), func(m *wire.Msg) { m.View.N = 0 }, false},
		{"a full view", answer(), func(m *wire.Msg) { m.View.Members = nodes(api.MaxView) }, true},
		{"a view of too many", answer(), func(m *wire.Msg) { m.View.Members = nodes(api.MaxView + 1) }, false},
		{"a view with a node twice", answer(), func(m *wire.Msg) { m.View.Members = []ident.Proc{proc(1, 1), proc(1, 2)} }, false},
		{"a child's, refused", refuse(), func(m *wire.Msg) { m.ID = id(1, 2, 3) }, true},
		{"a call that may not be, refused", refuse(), func(m *wire.Msg) { m.ID.Client.Node = 16 }, false},
	})
	for code := range 256 {
		right(t, "Refuse", but(refuse(), func(m *wire.Msg) { m.Code = uint8(code) }))
	}
}

// P702: From, Commit and the Entries.
func TestP702AppendAndAcked(t *testing.T) {
	look(t, []change{
		{"none from 0", appended(), func(m *wire.Msg) { m.From, m.Entries = 0, nil }, true},
		{"none from the end", appended(), func(m *wire.Msg) { m.From, m.Entries = api.MaxLog, nil }, true},
		{"none from behind the end", appended(), func(m *wire.Msg) { m.From, m.Entries = api.MaxLog+1, nil }, false},
		{"the last one", appended(), func(m *wire.Msg) { m.From = api.MaxLog - 1 }, true},
		{"one behind the end", appended(), func(m *wire.Msg) { m.From = api.MaxLog }, false},
		{"all", appended(), func(m *wire.Msg) { m.From, m.Entries = 0, kills(api.MaxLog) }, true},
		{"one more than all", appended(), func(m *wire.Msg) { m.From, m.Entries = 0, kills(api.MaxLog+1) }, false},
		{"all but the first, and one more", appended(), func(m *wire.Msg) { m.From, m.Entries = 1, kills(api.MaxLog) }, false},
		{"far behind the end", appended(), func(m *wire.Msg) { m.From = math.MaxUint32 }, false},
		{"nothing committed", appended(), func(m *wire.Msg) { m.Commit = 0 }, true},
		{"all committed", appended(), func(m *wire.Msg) { m.Commit = api.MaxLog }, true},
		{"more than all committed", appended(), func(m *wire.Msg) { m.Commit = api.MaxLog + 1 }, false},
		{"far more committed", appended(), func(m *wire.Msg) { m.Commit = math.MaxUint32 }, false},
		{"nothing acked", acked(), func(m *wire.Msg) { m.From = 0 }, true},
		{"all acked", acked(), func(m *wire.Msg) { m.From = api.MaxLog }, true},
		{"more than all acked", acked(), func(m *wire.Msg) { m.From = api.MaxLog + 1 }, false},
		{"far more acked", acked(), func(m *wire.Msg) { m.From = math.MaxUint32 }, false},
	})
}

// P702: lists of entries, in each kind that has them.
func TestP702Entries(t *testing.T) {
	lists := []struct {
		name string
		l    []entry.Entry
		want bool
	}{
		{"none", nil, true},
		{"each kind", entries(1), true},
		{"as many as there may be", kills(api.MaxLog), true},
		{"one too many", kills(api.MaxLog + 1), false},
		{"far too many", kills(100000), false},
		{"another group's call", entries(2)[:1], false},
		{"another group's child", entries(2)[1:2], false},
		{"another group's check", entries(2)[3:], false},
		{"no victim", []entry.Entry{{Kind: entry.Kill}}, false},
		{"no kind", append(kills(1), entry.Entry{Kind: 4}), false},
		{"a wrong one as the last", append(entries(1), entry.Entry{}), false},
	}
	for _, c := range lists {
		tail, entries := func(m *wire.Msg) { m.Tail = c.l }, func(m *wire.Msg) { m.Entries = c.l }
		look(t, []change{
			{"Append: " + c.name, but(appended(), func(m *wire.Msg) { m.From = 0 }), entries, c.want},
			{"Promise without: " + c.name, empty(), entries, c.want},
			{"Promise: " + c.name, promise(), entries, c.want},
			{"Promise, Tail: " + c.name, promise(), tail, c.want},
			{"Propose: " + c.name, propose(), tail, c.want},
			{"Install: " + c.name, install(), entries, c.want},
		})
	}
	right(t, "Install in another group", but(install(), func(m *wire.Msg) { m.View.Group, m.Entries = 2, entries(2) }))
}

// P702: what a Promise has where it has a value, and what a Propose has.
func TestP702Values(t *testing.T) {
	look(t, []change{
		{"a value that is not told", promise(), func(m *wire.Msg) { m.Has = false }, false},
		{"a value that is not there", empty(), func(m *wire.Msg) { m.Has = true }, false},
		{"a value without members", empty(), func(m *wire.Msg) { m.Has, m.Acc = true, 1 }, false},
		{"a ballot of no value", empty(), func(m *wire.Msg) { m.Acc = 1 }, false},
		{"members of no value", empty(), func(m *wire.Msg) { m.Members = members() }, false},
		{"a tail of no value", empty(), func(m *wire.Msg) { m.Tail = kills(1) }, false},
		{"a value without a ballot", promise(), func(m *wire.Msg) { m.Acc = 0 }, false},
		{"the least ballot", promise(), func(m *wire.Msg) { m.Acc = 1 }, true},
		{"the greatest ballot", promise(), func(m *wire.Msg) { m.Acc = math.MaxUint64 }, true},
	})
	for _, m := range []wire.Msg{promise(), propose()} {
		word := wire.Word(m.Kind)
		look(t, []change{
			{word + ": no members", m, func(m *wire.Msg) { m.Members = nil }, false},
			{word + ": one member", m, func(m *wire.Msg) { m.Members = nodes(1) }, true},
			{word + ": as many members as there may be", m, func(m *wire.Msg) { m.Members = nodes(api.MaxView) }, true},
			{word + ": one member too many", m, func(m *wire.Msg) { m.Members = nodes(api.MaxView + 1) }, false},
			{word + ": far too many members", m, func(m *wire.Msg) { m.Members = make([]ident.Proc, 100000) }, false},
			{word + ": a member of no node", m, func(m *wire.Msg) { m.Members = []ident.Proc{proc(0, 1), proc(16, 1)} }, false},
			{word + ": a member of no life", m, func(m *wire.Msg) { m.Members = []ident.Proc{proc(0, 0)} }, false},
			{word + ": a member twice", m, func(m *wire.Msg) { m.Members = []ident.Proc{proc(3, 1), proc(3, 1)} }, false},
			{word + ": a node twice", m, func(m *wire.Msg) { m.Members = []ident.Proc{proc(3, 1), proc(4, 1), proc(3, 2)} }, false},
			{word + ": the last node in its last life", m, func(m *wire.Msg) { m.Members = []ident.Proc{proc(15, math.MaxUint16)} }, true},
		})
	}
}

// P702: views of an Install, and processes of Join, Leave and Slay.
func TestP702InstallAndProc(t *testing.T) {
	look(t, []change{
		{"no view", install(), func(m *wire.Msg) { m.View = view.View{} }, false},
		{"a view of no group", install(), func(m *wire.Msg) { m.View.Group, m.Entries = 4, nil }, false},
		{"a view of number 0", install(), func(m *wire.Msg) { m.View.N = 0 }, false},
		{"a view of too many", install(), func(m *wire.Msg) { m.View.Members = nodes(api.MaxView + 1) }, false},
	})
	for _, kind := range []uint8{wire.Join, wire.Leave, wire.Slay} {
		look(t, []change{
			{"nobody", about(kind), func(m *wire.Msg) { m.Proc = ident.Proc{} }, false},
			{"no life", about(kind), func(m *wire.Msg) { m.Proc.Life = 0 }, false},
			{"no node", about(kind), func(m *wire.Msg) { m.Proc.Node = api.MaxNodes }, false},
			{"the last node", about(kind), func(m *wire.Msg) { m.Proc = proc(api.MaxNodes-1, math.MaxUint16) }, true},
		})
	}
}

// P703: Same, by all fields, of messages that may not be, too.
func TestP703Same(t *testing.T) {
	for i, a := range messages() {
		for j, b := range messages() {
			if wire.Same(a, b) != (i == j) {
				t.Errorf("Same(%+v, %+v)", a, b)
			}
		}
	}
	for _, m := range append(messages(), wire.Msg{}, wire.Msg{Kind: 255}) {
		for _, f := range fields() {
			for _, c := range f.change {
				other := but(m, c)
				if wire.Same(m, other) || wire.Same(other, m) {
					t.Errorf("%d: another %s is the same", m.Kind, f.name)
				}
				if !wire.Same(other, but(m, c)) {
					t.Errorf("%d: the same %s is another one", m.Kind, f.name)
				}
			}
		}
	}
}

// P703: the kinds' words.
func TestP703Word(t *testing.T) {
	words := strings.Fields("Ask Answer Refuse Append Acked Prepare Accept Nack Promise Propose Install Join Leave Slay")
	for kind := range 256 {
		want := ""
		if kind < len(words) {
			want = words[kind]
		}
		if got := wire.Word(uint8(kind)); got != want {
			t.Errorf("Word(%d): %q, not %q", kind, got, want)
		}
	}
}
