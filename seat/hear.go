package seat

import (
	"slices"

	"gemot/api"
	"gemot/ident"
	"gemot/pact"
	"gemot/wire"
)

// Hear is what it tells when it hears a message. What is about a view is looked at for that view's number first: who tells of a view that is over is told the one that there is, and to who tells of a later one it tells where it is itself.
func (s *Seat) Hear(now int, from ident.Proc, m wire.Msg) []Out {
	if !s.made() || !from.Right() || !s.concerns(m) {
		return nil
	}
	switch m.Kind {
	case wire.Append:
		if m.N > s.seen {
			return answer(from, s.behind())
		}
		fallthrough
	case wire.Acked, wire.Prepare, wire.Propose:
		if m.N < s.view.N {
			return answer(from, s.installed())
		}
		fallthrough
	case wire.Promise, wire.Accept, wire.Nack:
		if m.N == s.view.N && s.fits(m) {
			return s.hearOfView(now, from, m)
		}
	case wire.Install:
		if m.View.N > s.seen {
			s.adopt(now, m.View, m.Entries)
		}
	case wire.Join:
		return s.letIn(m.Proc)
	case wire.Leave:
		s.letOut(m.Proc)
	}
	return nil
}

// answer is a message to one.
func answer(to ident.Proc, m wire.Msg) []Out {
	return []Out{{To: to, Msg: m}}
}

// concerns tells whether a message is right, and about this group. An Install names the group in its view.
func (s *Seat) concerns(m wire.Msg) bool {
	group := m.Group
	if m.Kind == wire.Install {
		group = m.View.Group
	}
	return group == s.group && m.Right()
}

// behind tells one of a view that it has not heard of where it is itself, so that it is sent that view.
func (s *Seat) behind() wire.Msg {
	if !s.In() {
		return s.mine(wire.Join)
	}
	return s.acked(0)
}

// fits tells whether the order has room for the tails that a message has.
func (s *Seat) fits(m wire.Msg) bool {
	if m.Kind != wire.Promise && m.Kind != wire.Propose {
		return true
	}
	return max(len(m.Entries), len(m.Tail)) <= api.MaxLog-s.order.Base()
}

// hearOfView hears a message that is for the view that it is in.
func (s *Seat) hearOfView(now int, from ident.Proc, m wire.Msg) []Out {
	s.round = max(s.round, pact.Round(m.Ballot))
	switch m.Kind {
	case wire.Append:
		return s.take(from, m)
	case wire.Acked:
		s.order.Acked(from, int(m.From))
	case wire.Prepare, wire.Propose:
		return s.vote(now, from, m)
	case wire.Promise, wire.Accept:
		return s.count(now, from, m)
	case wire.Nack:
		s.giveWay(now, m.Ballot)
	}
	return nil
}

// take takes in what the head tells of its order, and tells how much it has then.
func (s *Seat) take(from ident.Proc, m wire.Msg) []Out {
	if s.leads() || from != s.view.Head() {
		return nil
	}
	s.order.Take(int(m.From), m.Entries, int(m.Commit))
	return answer(from, s.acked(s.order.Len()))
}

// value is what a message tells of a value.
func value(m wire.Msg) pact.Val {
	return pact.Val{Members: m.Members, Tail: m.Tail}
}

// vote asks the acceptor for what a member proposes, or prepares to.
func (s *Seat) vote(now int, from ident.Proc, m wire.Msg) []Out {
	if s.view.Rank(from) < 0 {
		return nil
	}
	if !s.allows(m) {
		return answer(from, s.balloted(wire.Nack, s.acceptor.Promised()))
	}
	s.shut(now)
	s.giveWay(now, m.Ballot)
	if m.Kind == wire.Prepare {
		return answer(from, s.promise(m.Ballot))
	}
	return answer(from, s.balloted(wire.Accept, m.Ballot))
}

// allows tells whether the acceptor promises, or accepts.
func (s *Seat) allows(m wire.Msg) bool {
	if m.Kind == wire.Prepare {
		return s.acceptor.Prepare(m.Ballot)
	}
	return s.acceptor.Accept(m.Ballot, value(m))
}

// giveWay lets the proposer go, if there is a greater ballot than its own.
func (s *Seat) giveWay(now int, ballot uint64) {
	if s.proposer != nil && ballot > s.proposer.Ballot() {
		s.proposer = nil
		s.try = later(now, afterTry)
	}
}

// count takes in what a member answered to the proposer.
func (s *Seat) count(now int, from ident.Proc, m wire.Msg) []Out {
	if s.proposer == nil || m.Ballot != s.proposer.Ballot() {
		return nil
	}
	if m.Kind == wire.Promise {
		s.proposer.Promise(from, m.Entries, m.Acc, value(m), m.Has)
	} else {
		s.proposer.Accepted(from)
	}
	return s.goOn(now)
}

// letIn notes who wants to join; a member hears which view it is in. A node has one life at a time, so that a new one takes the elder one's place.
func (s *Seat) letIn(p ident.Proc) []Out {
	if !s.In() {
		return nil
	}
	if s.view.Rank(p) >= 0 {
		return answer(p, s.installed())
	}
	i := slices.IndexFunc(s.joining, func(q ident.Proc) bool { return q.Node == p.Node })
	switch {
	case i >= 0:
		s.joining[i] = p
	case len(s.joining) < api.MaxView:
		s.joining = append(s.joining, p)
	}
	return nil
}

// letOut notes that a member wants to leave.
func (s *Seat) letOut(p ident.Proc) {
	if s.view.Rank(p) >= 0 {
		s.leaving = with(s.leaving, p)
	}
}
