package pact

// Acceptor is a member that promises to take no lesser ballot than it has met. One that NewAcceptor did not make promises nothing.
type Acceptor struct {
	made     bool
	promised uint64
	last     accepted
}

// NewAcceptor is one that has promised and accepted nothing.
func NewAcceptor() *Acceptor {
	return &Acceptor{made: true}
}

// Prepare promises a ballot, and tells whether it may.
func (a *Acceptor) Prepare(b uint64) bool {
	if a == nil || !a.made || b == 0 || b < a.promised {
		return false
	}
	a.promised = b
	return true
}

// Accept holds a value from then on, if its ballot may be promised.
func (a *Acceptor) Accept(b uint64, v Val) bool {
	if !a.Prepare(b) {
		return false
	}
	a.last = accepted{ballot: b, val: v.clone(), has: true}
	return true
}

// Promised is the greatest ballot that was promised; 0, if none was.
func (a *Acceptor) Promised() uint64 {
	if a == nil {
		return 0
	}
	return a.promised
}

// Held is the value that was accepted last, with its ballot.
func (a *Acceptor) Held() (uint64, Val, bool) {
	if a == nil {
		return 0, Val{}, false
	}
	return a.last.ballot, a.last.val.clone(), a.last.has
}
