package pact_test

import (
	"math/rand"
	"testing"

	"gemot/api"
	"gemot/entry"
	"gemot/ident"
	"gemot/pact"
)

// member is one of a view's: who promises and accepts, and what it was told in the view's order.
type member struct {
	me       ident.Proc
	acceptor *pact.Acceptor
	tail     []entry.Entry
}

// answer is what a member tells a proposer: a promise, or, if accepted, that it took what was proposed.
type answer struct {
	to       int
	from     ident.Proc
	accepted bool
	tail     []entry.Entry
	acc      uint64
	val      pact.Val
	has      bool
}

// council are a view's members and all who ever propose to them. What is said is never gone from what is on its way, so that it may come late, often, or never.
type council struct {
	rnd       *rand.Rand
	members   []*member
	proposers []*pact.Proposer
	answers   []answer
	decided   []pact.Val
	next      int
}

// meeting is a council of n members.
func meeting(rnd *rand.Rand, n int) *council {
	c := &council{rnd: rnd}
	for _, p := range members(n) {
		c.members = append(c.members, &member{me: p, acceptor: pact.NewAcceptor()})
	}
	return c
}

func (c *council) number() int {
	c.next++
	return c.next
}

// begin starts one more proposer, with a ballot of its own, that may be less than others'.
func (c *council) begin() {
	round := uint32(1 + c.rnd.Intn(8))
	node := uint8(len(c.proposers))
	c.proposers = append(c.proposers, pact.Start(of(len(c.members)), pact.Ballot(round, node)))
}

// ask lets a member hear of a proposer what that one tells those who are missing, or what it told them in Asking.
func (c *council) ask(i int, m *member) {
	p := c.proposers[i]
	if p.Phase() == pact.Asking || c.rnd.Intn(4) == 0 {
		if !m.acceptor.Prepare(p.Ballot()) {
			return
		}
		b, v, has := m.acceptor.Held()
		c.answers = append(c.answers, answer{to: i, from: m.me, tail: m.tail, acc: b, val: v, has: has})
		return
	}
	if m.acceptor.Accept(p.Ballot(), p.Value()) {
		c.answers = append(c.answers, answer{to: i, from: m.me, accepted: true})
	}
}

// tell lets a proposer hear an answer, and propose as soon as it may, or later.
func (c *council) tell(x answer) {
	p := c.proposers[x.to]
	if x.accepted {
		p.Accepted(x.from)
	} else {
		p.Promise(x.from, x.tail, x.acc, x.val, x.has)
	}
	if p.Ready() && c.rnd.Intn(2) == 0 {
		n := c.number()
		p.Propose(procs(uint8(n%16), uint8(n/16%16), uint8(n/256)))
	}
}

// step does one thing that may be.
func (c *council) step() {
	m := c.members[c.rnd.Intn(len(c.members))]
	switch {
	case c.rnd.Intn(40) == 0 && len(c.proposers) < 12 || len(c.proposers) == 0:
		c.begin()
	case c.rnd.Intn(10) == 0 && len(m.tail) < 20:
		m.tail = append(m.tail, call(c.number()))
	case c.rnd.Intn(2) == 0 || len(c.answers) == 0:
		c.ask(c.rnd.Intn(len(c.proposers)), m)
	default:
		c.tell(c.answers[c.rnd.Intn(len(c.answers))])
	}
}

// look gathers what is decided.
func (c *council) look() {
	c.decided = nil
	for _, p := range c.proposers {
		if p.Phase() == pact.Decided {
			c.decided = append(c.decided, p.Value())
		}
	}
}

// P1105: whatever is lost, doubled and late: all values that are decided are the same.
func TestP1105One(t *testing.T) {
	rnd := rand.New(rand.NewSource(1105))
	several := 0
	for round := range 6000 {
		c := meeting(rnd, 1+round%api.MaxView)
		for range 150 + 50*len(c.members) {
			c.step()
		}
		c.look()
		for _, v := range c.decided {
			if !pact.Same(v, c.decided[0]) {
				t.Fatalf("round %d: %v and %v are decided", round, c.decided[0], v)
			}
		}
		if len(c.decided) > 1 {
			several++
		}
	}
	if several < 1200 {
		t.Errorf("just %d rounds had several who decided, so that little was tried", several)
	}
}

// promises lets members promise to a proposer, who is then to be Ready.
func (c *council) promises(t *testing.T, p *pact.Proposer, ranks ...int) {
	t.Helper()
	for _, i := range ranks {
		m := c.members[i]
		if !m.acceptor.Prepare(p.Ballot()) {
			t.Fatalf("the member %d has promised a greater ballot", i)
		}
		b, v, has := m.acceptor.Held()
		p.Promise(m.me, m.tail, b, v, has)
	}
	if !p.Ready() {
		t.Fatal("it isn't Ready")
	}
}

// agree lets a new proposer ask a majority, from a rank on, and decide.
func (c *council) agree(t *testing.T, round uint32, from int, wish []ident.Proc) pact.Val {
	t.Helper()
	n := len(c.members)
	var ranks []int
	for i := range n/2 + 1 {
		ranks = append(ranks, (from+i)%n)
	}
	p := pact.Start(of(n), pact.Ballot(round, 1))
	c.promises(t, p, ranks...)
	v, _ := p.Propose(wish)
	for _, i := range ranks {
		if !c.members[i].acceptor.Accept(p.Ballot(), v) {
			t.Fatalf("the member %d has promised a greater ballot", i)
		}
		p.Accepted(c.members[i].me)
	}
	if p.Phase() != pact.Decided {
		t.Fatal("a majority has accepted")
	}
	return p.Value()
}

// P1105: who comes behind a decision proposes what was decided, whichever majority he asks, whatever he wishes, and however long the tails are then.
func TestP1105LaterOnes(t *testing.T) {
	for n := 1; n <= api.MaxView; n++ {
		c := meeting(nil, n)
		first := c.agree(t, 1, 0, procs(1))
		for shift := range n {
			for i, m := range c.members {
				m.tail = tail(10*i, 1+shift)
			}
			later := c.agree(t, uint32(2+shift), shift, procs(2))
			same(t, "what is decided later", later, first)
		}
	}
}

// P1105: a proposal that comes late to one who accepted a later one, that nobody had asked him to promise, is refused, so that what was decided stays.
func TestP1105LateProposal(t *testing.T) {
	c := meeting(nil, 3)
	elder, middle, last := pact.Start(of(3), 3), pact.Start(of(3), 5), pact.Start(of(3), 7)
	c.promises(t, elder, 0, 1)
	elder.Propose(procs(3))
	c.promises(t, middle, 1, 2)
	v, _ := middle.Propose(procs(5))
	for _, i := range []int{0, 1} {
		if !c.members[i].acceptor.Accept(5, v) {
			t.Fatalf("the member %d has promised no greater ballot", i)
		}
		middle.Accepted(c.members[i].me)
	}
	if middle.Phase() != pact.Decided {
		t.Fatal("two of three have accepted")
	}
	for i, m := range c.members {
		if m.acceptor.Accept(3, elder.Value()) {
			t.Errorf("the member %d accepts the elder one", i)
		}
	}
	c.promises(t, last, 0, 2)
	got, _ := last.Propose(procs(7))
	same(t, "what is proposed last", got, v)
}
