package seat

import (
	"gemot/entry"
	"gemot/ident"
	"gemot/pact"
	"gemot/view"
	"gemot/wire"
)

// mostNext is how many entries an Append has at most.
const mostNext = 16

// about is a message of a kind, about the view.
func (t *term) about(kind uint8) wire.Msg {
	return wire.Msg{Kind: kind, Group: t.view.Group, N: t.view.N}
}

// acked tells how many entries somebody has.
func (t *term) acked(n int) wire.Msg {
	m := t.about(wire.Acked)
	m.From = uint32(n)
	return m
}

// next tells a member the entries that it has not.
func (t *term) next(p ident.Proc) wire.Msg {
	from, l := t.order.Since(p, mostNext)
	m := t.about(wire.Append)
	m.From, m.Commit, m.Entries = uint32(from), uint32(t.order.Commit()), l
	return m
}

// balloted is a message of a kind, about a ballot.
func (t *term) balloted(kind uint8, ballot uint64) wire.Msg {
	m := t.about(kind)
	m.Ballot = ballot
	return m
}

// promise tells a proposer what it has to know of a member who promised.
func (t *term) promise(ballot uint64) wire.Msg {
	m := t.balloted(wire.Promise, ballot)
	acc, v, has := t.acceptor.Held()
	m.Entries, m.Has, m.Acc, m.Members, m.Tail = t.order.Tail(), has, acc, v.Members, v.Tail
	return m
}

// asked is what the proposer asks of those who are missing.
func (t *term) asked() wire.Msg {
	if t.proposer.Phase() != pact.Proposing {
		return t.balloted(wire.Prepare, t.proposer.Ballot())
	}
	m := t.balloted(wire.Propose, t.proposer.Ballot())
	v := t.proposer.Value()
	m.Members, m.Tail = v.Members, v.Tail
	return m
}

// base are the entries that stood in the order when the view began.
func (t *term) base() []entry.Entry {
	n := t.order.Base()
	return t.order.Log()[:n:n]
}

// installed tells the view to somebody who may not be in it yet.
func (t *term) installed() wire.Msg {
	return wire.Msg{Kind: wire.Install, View: t.view.Clone(), Entries: t.base()}
}

// decided tells the view that comes behind this one.
func (t *term) decided() wire.Msg {
	v := t.proposer.Value()
	next := view.View{Group: t.view.Group, N: t.view.N + 1, Members: v.Members}
	return wire.Msg{Kind: wire.Install, View: next, Entries: append(t.base(), v.Tail...)}
}

// mine is a message of a kind, about me.
func (s *Seat) mine(kind uint8) wire.Msg {
	return wire.Msg{Kind: kind, Group: s.group, Proc: s.me}
}

// others are those of a list who are not me.
func (s *Seat) others(l []ident.Proc) []ident.Proc {
	var others []ident.Proc
	for _, p := range l {
		if p != s.me {
			others = append(others, p)
		}
	}
	return others
}

// tell is a message to each of a list but me. It is made anew for each, so that no two of them share a list.
func (s *Seat) tell(l []ident.Proc, msg func() wire.Msg) []Out {
	var out []Out
	for _, p := range s.others(l) {
		out = append(out, Out{To: p, Msg: msg()})
	}
	return out
}
