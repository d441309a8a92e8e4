package pact

import (
	"slices"

	"gemot/entry"
	"gemot/ident"
	"gemot/view"
)

// Phases of a proposer.
const (
	Asking = iota
	Proposing
	Decided
)

// Proposer asks a view's members for promises, and then proposes. One that Start did not make has no map, and does nothing.
type Proposer struct {
	view    view.View
	ballot  uint64
	phase   int
	counted map[ident.Proc]struct{} // in this phase
	longest []entry.Entry
	held    accepted // what had been accepted with the greatest ballot among those who promised
	value   Val
}

// Start is a proposer to whom nobody has promised.
func Start(v view.View, b uint64) *Proposer {
	if !v.Right() || b == 0 {
		return nil
	}
	return &Proposer{view: v.Clone(), ballot: b, counted: map[ident.Proc]struct{}{}}
}

func (p *Proposer) made() bool {
	return p != nil && p.counted != nil
}

// in tells whether it is in a phase.
func (p *Proposer) in(phase int) bool {
	return p.made() && p.phase == phase
}

// count tells whether somebody is a member who had not counted in this phase, and does now.
func (p *Proposer) count(from ident.Proc) bool {
	if _, has := p.counted[from]; has || p.view.Rank(from) < 0 {
		return false
	}
	p.counted[from] = struct{}{}
	return true
}

// enough tells whether a majority has counted in this phase.
func (p *Proposer) enough() bool {
	return len(p.counted) >= p.view.Majority()
}

// Promise takes in a member's promise, with its tail, and with the value that it holds and that one's ballot, if it has one.
func (p *Proposer) Promise(from ident.Proc, tail []entry.Entry, acc uint64, v Val, has bool) {
	if !p.in(Asking) || !p.count(from) {
		return
	}
	if len(tail) > len(p.longest) {
		p.longest = cloneTail(tail)
	}
	if has && (!p.held.has || acc > p.held.ballot) {
		p.held = accepted{ballot: acc, val: v.clone(), has: true}
	}
}

// Ready tells whether it may propose.
func (p *Proposer) Ready() bool {
	return p.in(Asking) && p.enough()
}

// Propose is the value that is proposed from then on, if it is Ready.
func (p *Proposer) Propose(wish []ident.Proc) (Val, bool) {
	if !p.Ready() {
		return Val{}, false
	}
	p.value = p.choose(wish)
	p.phase = Proposing
	clear(p.counted)
	p.longest, p.held = nil, accepted{} // not asked for any more
	return p.value.clone(), true
}

// choose is a value to propose. One that was held may have been decided, so that no other one may be proposed then.
func (p *Proposer) choose(wish []ident.Proc) Val {
	if p.held.has {
		return p.held.val
	}
	return Val{Members: slices.Clone(wish), Tail: p.longest}
}

// Accepted takes in that a member has accepted, and tells whether the value is decided.
func (p *Proposer) Accepted(from ident.Proc) bool {
	if p.in(Proposing) && p.count(from) && p.enough() {
		p.phase = Decided
	}
	return p.in(Decided)
}

// Phase is the phase that it is in.
func (p *Proposer) Phase() int {
	if !p.made() {
		return Asking
	}
	return p.phase
}

// Ballot is the ballot that it was started with.
func (p *Proposer) Ballot() uint64 {
	if !p.made() {
		return 0
	}
	return p.ballot
}

// Value is what it proposes.
func (p *Proposer) Value() Val {
	if !p.made() {
		return Val{}
	}
	return p.value.clone()
}

// Missing are the members who have not counted in this phase, by rank.
func (p *Proposer) Missing() []ident.Proc {
	if !p.made() || p.phase == Decided {
		return nil
	}
	var l []ident.Proc
	for _, m := range p.view.Members {
		if _, has := p.counted[m]; !has {
			l = append(l, m)
		}
	}
	return l
}
