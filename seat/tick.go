package seat

import (
	"math"
	"slices"

	"gemot/api"
	"gemot/ident"
	"gemot/pact"
	"gemot/view"
	"gemot/wire"
)

// How long a member has been shut when it proposes, whoever else should: the longer, the further behind it stands, so that not all do at once.
const (
	shutWait = 12
	rankWait = 6
)

// Tick is what it tells of its own accord.
func (s *Seat) Tick(now int) []Out {
	if !s.In() {
		return s.knock()
	}
	l := slices.Concat(s.farewell(), s.spread())
	switch {
	case s.proposer != nil:
		return append(l, s.ask()...)
	case now >= s.try && (s.isNext() || s.isStuck(now)):
		return append(l, s.begin(now)...)
	}
	return l
}

// knock asks all whom it met to be let in.
func (s *Seat) knock() []Out {
	if !s.made() || !s.wantsIn {
		return nil
	}
	return s.tell(s.met, func() wire.Msg { return s.mine(wire.Join) })
}

// farewell asks all other members to be let out.
func (s *Seat) farewell() []Out {
	if !slices.Contains(s.leaving, s.me) {
		return nil
	}
	return s.tell(s.view.Members, func() wire.Msg { return s.mine(wire.Leave) })
}

// spread tells the order to all other members, at the head.
func (s *Seat) spread() []Out {
	if !s.leads() {
		return nil
	}
	var out []Out
	for _, p := range s.others(s.view.Members) {
		out = append(out, Out{To: p, Msg: s.next(p)})
	}
	return out
}

// isNext tells whether the members are to be others, and it is the first one who may see to it.
func (s *Seat) isNext() bool {
	return !slices.Equal(s.wish(), s.view.Members) && s.firstToStay() == s.me
}

// gone are those who are to be in no view any more.
func (s *Seat) gone() []ident.Proc {
	return slices.Concat(s.suspected, s.leaving)
}

// firstToStay is the first member who is not gone; the zero process, if all are.
func (s *Seat) firstToStay() ident.Proc {
	gone := s.gone()
	for _, p := range s.view.Members {
		if !slices.Contains(gone, p) {
			return p
		}
	}
	return ident.Proc{}
}

// isStuck tells whether the order has been shut so long that whoever shut it must have given up.
func (s *Seat) isStuck(now int) bool {
	wait := shutWait + rankWait*s.view.Rank(s.me)
	return !s.order.Open() && since(s.shutAt, now) >= uint64(wait)
}

// since is how long a time is behind another one; 0, if it is ahead of it. The difference is taken without a sign, in which it always finds room.
func since(at, now int) uint64 {
	if now < at {
		return 0
	}
	return uint64(now) - uint64(at)
}

// wish are the members that it wants in the next view.
func (s *Seat) wish() []ident.Proc {
	for _, drop := range [][]ident.Proc{s.gone(), nil} {
		if v, e := s.view.Next(drop, s.joining); e == api.OK {
			return v.Members
		}
	}
	return s.view.Members
}

// begin starts a proposer with a ballot above all that it met.
func (s *Seat) begin(now int) []Out {
	if s.round == math.MaxUint32 || s.view.N == math.MaxUint32 {
		return nil
	}
	s.round++
	ballot := pact.Ballot(s.round, s.me.Node)
	s.proposer = pact.Start(s.view, ballot)
	s.try = later(now, afterTry)
	if s.acceptor.Prepare(ballot) {
		s.shut(now)
		acc, v, has := s.acceptor.Held()
		s.proposer.Promise(s.me, s.order.Tail(), acc, v, has)
	}
	return append(s.ask(), s.goOn(now)...)
}

// shut lets the order change no more, so that what a promise tells of it stays.
func (s *Seat) shut(now int) {
	if s.order.Open() {
		s.order.Shut()
		s.shutAt = now
	}
}

// ask tells those whom the proposer misses what it asks of them.
func (s *Seat) ask() []Out {
	return s.tell(s.proposer.Missing(), s.asked)
}

// goOn proposes as soon as it may, and goes over to what is decided.
func (s *Seat) goOn(now int) []Out {
	var out []Out
	if v, ok := s.proposer.Propose(s.wish()); ok {
		if s.acceptor.Accept(s.proposer.Ballot(), v) {
			s.proposer.Accepted(s.me)
		}
		out = s.ask() // nobody is missing, if it is decided already
	}
	if s.proposer.Phase() == pact.Decided {
		out = append(out, s.conclude(now)...)
	}
	return out
}

// conclude tells what was decided to all whom it concerns, and adopts it.
func (s *Seat) conclude(now int) []Out {
	m := s.decided()
	out := s.tell(both(s.view, m.View), s.decided)
	s.adopt(now, m.View, m.Entries)
	return out
}

// both are the members of a view, and behind them those of another one who are not among them.
func both(a, b view.View) []ident.Proc {
	l := slices.Clone(a.Members)
	for _, p := range b.Members {
		l = with(l, p)
	}
	return l
}
