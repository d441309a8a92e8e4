package roll_test

import (
	"math"
	"math/rand"
	"slices"
	"testing"

	"gemot/api"
	"gemot/entry"
	"gemot/ident"
	"gemot/roll"
)

// since fails, unless a member has some, and is told the calls behind them.
func since(t *testing.T, what string, r *roll.Roll, p ident.Proc, most, from, n int) {
	t.Helper()
	got, l := r.Since(p, most)
	if got != from {
		t.Errorf("%s: %v has %d, not %d", what, p, got, from)
	}
	same(t, what+": the next ones", l, calls(1+from, n))
}

// The chapter's example: a head of three adds one; one other takes it, and tells so.
func TestP1204Example(t *testing.T) {
	head, other := made(t, 3, 0, 0), made(t, 3, 2, 0)
	add(t, head, 1, 1)
	is(t, "added", head, 1, 0, 0)
	from, l := head.Since(proc(15), 16)
	if !other.Take(from, l, head.Commit()) {
		t.Error("it takes")
	}
	is(t, "taken", other, 1, 0, 0)
	head.Acked(proc(15), other.Len())
	is(t, "told", head, 1, 0, 1)
	since(t, "told", head, proc(15), 16, 1, 0)
	since(t, "told", head, proc(2), 16, 0, 1)
	other.Take(1, nil, head.Commit())
	is(t, "told", other, 1, 0, 1)
}

// P1204: how many a member has: what it told, if that is more than it was, and may be.
func TestP1204Acked(t *testing.T) {
	r := made(t, 3, 0, 2)
	add(t, r, 3, 7)
	for _, c := range []struct{ upto, has int }{
		{0, 2}, {1, 2}, {2, 2}, {-1, 2}, {math.MinInt, 2}, {8, 2}, {math.MaxInt, 2},
		{3, 3}, {2, 3}, {3, 3}, {5, 5}, {4, 5}, {0, 5}, {8, 5}, {7, 7}, {6, 7}, {8, 7},
	} {
		r.Acked(proc(15), c.upto)
		since(t, "Acked", r, proc(15), 99, c.has, 7-c.has)
		since(t, "Acked by another one", r, proc(2), 99, 2, 5)
		is(t, "Acked", r, 7, 2, c.has) // it and the head are a majority
	}
}

// P1204: what is acknowledged counts where it was told, not where it would be right later.
func TestP1204AckedAhead(t *testing.T) {
	r := made(t, 2, 0, 0)
	r.Acked(proc(2), 1)
	add(t, r, 1, 1)
	is(t, "what was told ahead of it", r, 1, 0, 0)
	r.Acked(proc(2), 1)
	is(t, "told", r, 1, 0, 1)
	since(t, "told", r, proc(2), 9, 1, 0)
}

// P1204: nobody but other members counts.
func TestP1204AckedByOthers(t *testing.T) {
	r := made(t, 3, 0, 1)
	add(t, r, 2, 4)
	for _, p := range append(strangers(), proc(9)) {
		for upto := -1; upto < 6; upto++ {
			r.Acked(p, upto)
		}
		is(t, "not a member's", r, 4, 1, 1)
	}
	for _, p := range members(3)[1:] {
		since(t, "not its own", r, p, 9, 1, 3)
	}
	for _, p := range strangers() {
		since(t, "of nobody", r, p, 9, 0, 0)
	}
	since(t, "the head", r, proc(9), 9, 4, 0)
}

// P1204: elsewhere than at the head nothing counts, and nothing is told.
func TestP1204Elsewhere(t *testing.T) {
	for n := 2; n <= api.MaxView; n++ {
		for rank := 1; rank < n; rank++ {
			r := made(t, n, rank, 2)
			r.Take(2, calls(3, 3), 3)
			for _, p := range append(strangers(), members(n)...) {
				for _, upto := range []int{0, 2, 4, 5} {
					r.Acked(p, upto)
				}
				since(t, "elsewhere", r, p, 9, 0, 0)
			}
			is(t, "elsewhere", r, 5, 2, 3)
		}
	}
}

// P1204: at most so many are told.
func TestP1204Most(t *testing.T) {
	r := made(t, 3, 0, 2)
	add(t, r, 3, 6)
	r.Acked(proc(15), 4)
	for _, c := range []struct{ most, elder, newer int }{
		{math.MinInt, 0, 0}, {-1, 0, 0}, {0, 0, 0}, {1, 1, 1}, {2, 2, 2}, {3, 3, 2}, {4, 4, 2}, {5, 4, 2}, {math.MaxInt, 4, 2},
	} {
		since(t, "of one who told nothing", r, proc(2), c.most, 2, c.elder)
		since(t, "of one who told of 4", r, proc(15), c.most, 4, c.newer)
		since(t, "of the head", r, proc(9), c.most, 6, 0)
	}
	is(t, "behind that", r, 6, 2, 4)
}

// P1204: a whole order may be told at once.
func TestP1204MostOfAll(t *testing.T) {
	r := made(t, 2, 0, 0)
	add(t, r, 1, api.MaxLog)
	for _, most := range []int{16, 17, 255, api.MaxLog - 1, api.MaxLog, api.MaxLog + 1, math.MaxInt} {
		since(t, "of a whole order", r, proc(2), most, 0, min(most, api.MaxLog))
	}
	r.Acked(proc(2), api.MaxLog)
	is(t, "told of a whole order", r, api.MaxLog, 0, api.MaxLog)
	since(t, "told of a whole order", r, proc(2), math.MaxInt, api.MaxLog, 0)
}

// P1204: what is committed is what a majority has, in views of all sizes.
func TestP1204Majorities(t *testing.T) {
	for n := 1; n <= api.MaxView; n++ {
		r := made(t, n, 0, 1)
		add(t, r, 2, 5)
		for i, p := range members(n) { // the member of rank i has told of 4
			if i > 0 {
				r.Acked(p, 4)
			}
			want := 1
			switch {
			case n == 1:
				want = 5 // the head is all of them
			case 2*(i+1) > n:
				want = 4
			}
			is(t, "told one by one", r, 5, 1, want)
		}
	}
}

// P1204: the greatest number that a majority has, of members who have different ones.
func TestP1204Different(t *testing.T) {
	cases := []struct {
		has    []int // of those behind the head
		commit int
	}{
		{[]int{1}, 1}, {[]int{3}, 3}, {[]int{5}, 5},
		{[]int{0, 0}, 1}, {[]int{2, 4}, 4}, {[]int{4, 2}, 4}, {[]int{0, 5}, 5}, {[]int{3, 3}, 3},
		{[]int{2, 3, 4}, 3}, {[]int{4, 3, 2}, 3}, {[]int{0, 0, 5}, 1}, {[]int{0, 4, 5}, 4},
		{[]int{2, 3, 4, 5}, 4}, {[]int{5, 0, 0, 5}, 5}, {[]int{5, 0, 0, 0}, 1}, {[]int{3, 2, 0, 5}, 3},
		{[]int{2, 3, 4, 5, 0}, 3}, {[]int{5, 5, 0, 0, 0}, 1}, {[]int{5, 4, 3, 2, 2, 2}, 3},
		{[]int{5, 5, 5, 2, 2, 2, 2}, 2}, {[]int{2, 2, 2, 3, 5, 5, 5}, 3},
	}
	for _, c := range cases {
		n := len(c.has) + 1
		r := made(t, n, 0, 1)
		add(t, r, 2, 5)
		for i, p := range members(n)[1:] {
			r.Acked(p, c.has[i])
		}
		is(t, "told", r, 5, 1, c.commit)
		r.Acked(proc(2), 0)
		is(t, "it does not fall", r, 5, 1, c.commit)
		add(t, r, 6, 6)
		is(t, "nor when one more is added", r, 6, 1, c.commit)
	}
}

// P1204: a head that is shut still hears what the others have, and tells what it has.
func TestP1204Shut(t *testing.T) {
	r := made(t, 3, 0, 1)
	add(t, r, 2, 4)
	r.Shut()
	r.Acked(proc(2), 3)
	is(t, "shut", r, 4, 1, 3)
	since(t, "shut", r, proc(2), 9, 3, 1)
	since(t, "shut", r, proc(15), 9, 1, 3)
}

// model is an order as the chapter's words have it, done as plainly as may be: what members have stands by ranks.
type model struct {
	rank, base, commit int
	log                []entry.Entry
	has                []int
	shut               bool
}

func (m *model) add(e entry.Entry) api.Errno {
	switch {
	case m.rank != 0, !e.Right(1):
		return api.ErrArg
	case m.shut:
		return api.ErrBlock
	case len(m.log) == api.MaxLog:
		return api.ErrFull
	}
	m.log = append(slices.Clip(m.log), e)
	m.find()
	return api.OK
}

// find tries each number: which is the greatest one that more than half have?
func (m *model) find() {
	m.has[0] = len(m.log)
	for x := m.commit; x <= len(m.log); x++ {
		n := 0
		for _, h := range m.has {
			if h >= x {
				n++
			}
		}
		if 2*n > len(m.has) {
			m.commit = x
		}
	}
}

func (m *model) take(from int, l []entry.Entry, commit int) bool {
	if m.rank == 0 || from < m.base || from > len(m.log) || from+len(l) > api.MaxLog {
		return false
	}
	for i, e := range l {
		if !m.shut && from+i == len(m.log) {
			m.log = append(slices.Clip(m.log), e)
		}
	}
	for m.commit < commit && m.commit < len(m.log) {
		m.commit++
	}
	return true
}

func (m *model) acked(rank, upto int) {
	if m.rank == 0 && rank > 0 && upto >= 0 && upto <= len(m.log) && upto > m.has[rank] {
		m.has[rank] = upto
		m.find()
	}
}

func (m *model) since(rank, most int) (int, []entry.Entry) {
	if m.rank != 0 || rank < 0 {
		return 0, nil
	}
	from := m.has[rank]
	if rank == 0 {
		from = len(m.log)
	}
	l := m.log[from:]
	if most < len(l) {
		l = l[:max(most, 0)]
	}
	return from, l
}

// any is an entry, now and then one that may not be.
func (m *model) any(rnd *rand.Rand) entry.Entry {
	if rnd.Intn(10) == 0 {
		return entry.Entry{Kind: uint8(rnd.Intn(5))}
	}
	return call(1 + rnd.Intn(1000))
}

// step does one thing to an order and to the model, and holds the answers against each other.
func (m *model) step(t *testing.T, rnd *rand.Rand, r *roll.Roll, v []ident.Proc) {
	t.Helper()
	rank := rnd.Intn(len(v)+1) - 1
	p := proc(3)
	if rank >= 0 {
		p = v[rank]
	}
	at := len(m.log) - rnd.Intn(6) + rnd.Intn(3)
	switch rnd.Intn(5) {
	case 0:
		e := m.any(rnd)
		if got, want := r.Add(e), m.add(e); got != want {
			t.Fatalf("Add is %d, not %d", got, want)
		}
	case 1:
		l := calls(1+rnd.Intn(1000), rnd.Intn(5))
		commit := at + rnd.Intn(5) - 2
		if got, want := r.Take(at, l, commit), m.take(at, l, commit); got != want {
			t.Fatalf("Take from %d is %v", at, got)
		}
	case 2:
		r.Acked(p, at)
		m.acked(rank, at)
	case 3:
		most := rnd.Intn(6) - 1
		got, l := r.Since(p, most)
		want, k := m.since(rank, most)
		if got != want {
			t.Fatalf("Since is %d, not %d", got, want)
		}
		same(t, "Since", l, k)
	default:
		if rnd.Intn(15) == 0 {
			r.Shut()
			m.shut = true
		}
	}
}

// P1204: any calls, one behind the other, are answered as by the model.
func TestP1204AsTheModel(t *testing.T) {
	rnd := rand.New(rand.NewSource(1204))
	for round := range 1500 {
		n := 1 + rnd.Intn(api.MaxView)
		m := &model{base: rnd.Intn(4), has: make([]int, n)}
		if round%20 == 0 {
			m.base = api.MaxLog - rnd.Intn(5)
		}
		if rnd.Intn(3) == 0 {
			m.rank = rnd.Intn(n)
		}
		m.log, m.commit = calls(1, m.base), m.base
		for i := range m.has {
			m.has[i] = m.base
		}
		r := made(t, n, m.rank, m.base)
		for range 60 {
			m.step(t, rnd, r, members(n))
			if r.Open() == m.shut || r.Len() != len(m.log) || r.Base() != m.base || r.Commit() != m.commit {
				t.Fatalf("round %d: open %v, %d, base %d, committed %d; not %v, %d, %d, %d",
					round, r.Open(), r.Len(), r.Base(), r.Commit(), !m.shut, len(m.log), m.base, m.commit)
			}
		}
		same(t, "the order", r.Log(), m.log)
		same(t, "the tail", r.Tail(), m.log[m.base:])
	}
}
