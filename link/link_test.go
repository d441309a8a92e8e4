package link_test

import (
	"bytes"
	"math"
	"math/rand"
	"slices"
	"strconv"
	"testing"

	"gemot/api"
	"gemot/ident"
	"gemot/link"
	"gemot/wire"
)

// window is how many bodies may be on their way at once, and how far ahead one is kept.
const window = 8

// here and there are the processes at the two ends.
func here() ident.Proc  { return ident.Proc{Node: 1, Life: 1} }
func there() ident.Proc { return ident.Proc{Node: 2, Life: 1} }

// at is the end that is here, of bodies from first on.
func at(first uint64, again int) *link.Link {
	return link.New(here(), there(), first, again)
}

// opposite is the end that is there.
func opposite(first uint64, again int) *link.Link {
	return link.New(there(), here(), first, again)
}

// bare is a packet that comes here without a body.
func bare(ack uint64) wire.Packet {
	return wire.Packet{From: there(), To: here(), Ack: ack}
}

// full is one with a body.
func full(ack, seq uint64, body string) wire.Packet {
	p := bare(ack)
	p.Has, p.Seq, p.Body = true, seq, []byte(body)
	return p
}

// body is the one that is sent as the nth.
func body(n int) string {
	return "body " + strconv.Itoa(n)
}

// send sends so many bodies, from that of a number on.
func send(t *testing.T, l *link.Link, from, n int) {
	t.Helper()
	for i := range n {
		if e := l.Send([]byte(body(from + i))); e != api.OK {
			t.Fatalf("the body %d: %d", from+i, e)
		}
	}
}

// out fails, unless just packets with these numbers are told here, with the bodies of these numbers, and that is wanted.
func out(t *testing.T, l *link.Link, now int, want uint64, seqs ...uint64) {
	t.Helper()
	packets := l.Out(now)
	if len(packets) != len(seqs) {
		t.Fatalf("Out(%d): %d packets, not %d", now, len(packets), len(seqs))
	}
	for i, p := range packets {
		if p.From != here() || p.To != there() || p.Ack != want || !p.Has || p.Seq != seqs[i] || string(p.Body) != body(int(seqs[i])) {
			t.Errorf("Out(%d): the packet %d is %v", now, i, p)
		}
	}
}

// owes fails, unless an acknowledgement alone is told here.
func owes(t *testing.T, l *link.Link, now int, want uint64) {
	t.Helper()
	packets := l.Out(now)
	if len(packets) != 1 {
		t.Fatalf("Out(%d): %d packets, not 1", now, len(packets))
	}
	p := packets[0]
	if p.From != here() || p.To != there() || p.Ack != want || p.Has || p.Seq != 0 || len(p.Body) != 0 {
		t.Errorf("Out(%d): %v", now, p)
	}
}

// hear fails, unless just these bodies come by a packet.
func hear(t *testing.T, l *link.Link, p wire.Packet, want ...string) {
	t.Helper()
	if got := texts(l.Hear(p)); !slices.Equal(got, want) {
		t.Errorf("of %v comes %q, not %q", p, got, want)
	}
}

// texts are bodies as texts.
func texts(bodies [][]byte) []string {
	var l []string
	for _, b := range bodies {
		l = append(l, string(b))
	}
	return l
}

// holds fails, unless so many wait, and that is wanted.
func holds(t *testing.T, l *link.Link, waiting int, want uint64) {
	t.Helper()
	if l.Waiting() != waiting || l.Idle() != (waiting == 0) || l.Want() != want {
		t.Errorf("%d are waiting, idle is %v, wanted is %d, not %d and %d", l.Waiting(), l.Idle(), l.Want(), waiting, want)
	}
}

// numbers are n of them, from one on.
func numbers(from uint64, n int) []uint64 {
	var l []uint64
	for i := range n {
		l = append(l, from+uint64(i))
	}
	return l
}

// P1001: a nil Link, and one that New did not make.
func TestP1001NilAndUnmade(t *testing.T) {
	var none *link.Link
	for name, l := range map[string]*link.Link{"nil": none, "unmade": {}} {
		for range 2 { // what was refused must not have made it one
			for _, b := range [][]byte{nil, {}, []byte("x")} {
				if e := l.Send(b); e != api.ErrArg {
					t.Errorf("%s: Send is %d", name, e)
				}
			}
			for _, p := range []wire.Packet{{}, {Has: true}, {Has: true, Body: []byte("x")}, {Ack: 1}, full(0, 0, "x")} {
				if bodies := l.Hear(p); len(bodies) != 0 {
					t.Errorf("%s: %q comes", name, bodies)
				}
			}
			for _, now := range []int{0, 1, -1, math.MinInt, math.MaxInt} {
				if packets := l.Out(now); len(packets) != 0 {
					t.Errorf("%s: %v is told", name, packets)
				}
			}
			if l.Waiting() != 0 || l.Idle() || l.Want() != 0 {
				t.Errorf("%s: %d, %v, %d", name, l.Waiting(), l.Idle(), l.Want())
			}
		}
	}
}

// P1001: what is sent is taken in as it was, and is not changed.
func TestP1001SentApart(t *testing.T) {
	l := at(0, 1)
	room := []byte("body 0, and more")
	b := room[:6]
	if e := l.Send(b); e != api.OK || string(room) != "body 0, and more" {
		t.Errorf("%d, %q", e, room)
	}
	clear(room)
	out(t, l, 0, 0, 0)
}

// P1001: what is told shares nothing with the link, nor with what else is told, not even room.
func TestP1001ToldApart(t *testing.T) {
	l := at(0, 1)
	send(t, l, 0, 10)
	for now := range 3 {
		packets := l.Out(now)
		for i := range packets {
			for _, other := range packets[i+1:] {
				_ = append(packets[i].Body, "and something long behind it"...)
				if string(other.Body) != body(int(other.Seq)) {
					t.Fatalf("%q has changed", other.Body)
				}
			}
			clear(packets[i].Body[:cap(packets[i].Body)])
		}
		clear(packets[:cap(packets)])
	}
	elder := l.Out(3)
	out(t, l, 4, 0, numbers(0, window)...)
	hear(t, l, bare(9))
	send(t, l, 10, 5)
	out(t, l, 5, 0, numbers(9, 6)...)
	for i, p := range elder {
		if p.Seq != uint64(i) || string(p.Body) != body(i) {
			t.Errorf("%v has changed by what was done later", p)
		}
	}
}

// P1001: what is heard is taken in as it was, and what comes shares nothing with it, nor with the link.
func TestP1001HeardApart(t *testing.T) {
	l := at(0, 1)
	room := []byte("body 1, and more")
	p := full(0, 1, "")
	p.Body = room[:6]
	hear(t, l, p)
	if string(room) != "body 1, and more" {
		t.Errorf("%q has changed", room)
	}
	clear(room)
	hear(t, l, full(0, 2, body(2)))
	first := full(0, 0, body(0))
	came := l.Hear(first)
	clear(first.Body)
	if got := texts(came); !slices.Equal(got, []string{body(0), body(1), body(2)}) {
		t.Fatalf("%q comes", got)
	}
	for i := range came {
		_ = append(came[i], "and something long behind it"...)
		clear(came[i][:cap(came[i])])
		for j, b := range came[i+1:] {
			if string(b) != body(i+1+j) {
				t.Errorf("%q has changed", b)
			}
		}
	}
	clear(came[:cap(came)])
	hear(t, l, full(0, 3, body(3)), body(3))
}

// P1001: two links have nothing to do with each other, even such as are alike.
func TestP1001TwoLinks(t *testing.T) {
	a, b := at(0, 1), at(0, 1)
	send(t, a, 0, 2)
	hear(t, a, full(0, 1, "one"))
	holds(t, b, 0, 0)
	if packets := b.Out(0); len(packets) != 0 {
		t.Errorf("%v is told", packets)
	}
	hear(t, b, full(0, 0, "zero"), "zero")
	out(t, a, 0, 0, 0, 1)
	hear(t, a, full(0, 0, "zero"), "zero", "one")
}

// P1001: any processes may be at the ends, also such as are not right, and the same one.
func TestP1001AnyEnds(t *testing.T) {
	nobody, odd := ident.Proc{}, ident.Proc{Node: 255, Life: 0}
	for _, ends := range [][2]ident.Proc{{nobody, nobody}, {nobody, odd}, {odd, here()}, {here(), here()}} {
		l := link.New(ends[0], ends[1], 3, 1)
		if e := l.Send([]byte("x")); e != api.OK {
			t.Errorf("%v: %d", ends, e)
		}
		came := l.Hear(wire.Packet{From: ends[1], To: ends[0], Seq: 3, Ack: 3, Has: true, Body: []byte("y")})
		if got := texts(came); !slices.Equal(got, []string{"y"}) {
			t.Errorf("%v: %q comes", ends, got)
		}
		packets := l.Out(0)
		if len(packets) != 1 || packets[0].From != ends[0] || packets[0].To != ends[1] || packets[0].Seq != 3 || packets[0].Ack != 4 {
			t.Errorf("%v: %v is told", ends, packets)
		}
	}
}

// P1002: again below 1 counts as 1.
func TestP1002Again(t *testing.T) {
	cases := []struct{ again, want int }{
		{math.MinInt, 1}, {-1, 1}, {0, 1}, {1, 1}, {2, 2}, {7, 7}, {1 << 40, 1 << 40},
	}
	for _, c := range cases {
		l := at(0, c.again)
		send(t, l, 0, 1)
		out(t, l, 10, 0, 0)
		out(t, l, 10+c.want-1, 0)
		out(t, l, 10+c.want, 0, 0)
	}
}

// P1002: a body has the next number, whatever it is of.
func TestP1002Numbers(t *testing.T) {
	for _, first := range []uint64{0, 1, 41, 1 << 32, math.MaxUint64 - 5} {
		l := at(first, 1)
		holds(t, l, 0, first)
		for i, b := range []string{"", "x", "", string(make([]byte, api.MaxFrame+1)), "x"} {
			if e := l.Send([]byte(b)); e != api.OK {
				t.Fatalf("from %d on, the body %d: %d", first, i, e)
			}
			holds(t, l, i+1, first)
			packets := l.Out(0)
			if len(packets) != 1 || packets[0].Seq != first+uint64(i) || !packets[0].Has || string(packets[0].Body) != b || packets[0].Ack != first {
				t.Errorf("from %d on, the body %d: %d packets", first, i, len(packets))
			}
		}
	}
}

// P1002: the greatest number is no body's.
func TestP1002LastNumber(t *testing.T) {
	for left := range 3 {
		first := math.MaxUint64 - uint64(left)
		l := at(first, 1)
		send(t, l, 0, left)
		for range 2 {
			if e := l.Send([]byte("x")); e != api.ErrFull {
				t.Errorf("with %d numbers: %d", left, e)
			}
			holds(t, l, left, first)
		}
		if packets := l.Out(0); len(packets) != left {
			t.Errorf("with %d numbers: %v is told", left, packets)
		}
		hear(t, l, bare(math.MaxUint64)) // that is the next one's number
		holds(t, l, 0, first)
		if e := l.Send(nil); e != api.ErrFull {
			t.Errorf("with none left: %d", e)
		}
	}
}

// P1002: MaxLink bodies wait at most; what was refused has no number.
func TestP1002Busy(t *testing.T) {
	l := at(0, 1)
	send(t, l, 0, api.MaxLink-1)
	holds(t, l, api.MaxLink-1, 0)
	send(t, l, api.MaxLink-1, 1)
	for range 3 {
		if e := l.Send([]byte("x")); e != api.ErrBusy {
			t.Errorf("one more: %d", e)
		}
		holds(t, l, api.MaxLink, 0)
	}
	out(t, l, 0, 0, numbers(0, window)...)
	if e := l.Send([]byte("x")); e != api.ErrBusy {
		t.Errorf("one more when some are told: %d", e)
	}
	hear(t, l, bare(2))
	send(t, l, api.MaxLink, 2)
	if e := l.Send([]byte("x")); e != api.ErrBusy {
		t.Errorf("one more when two are gone: %d", e)
	}
	hear(t, l, bare(api.MaxLink))
	out(t, l, 1, 0, api.MaxLink, api.MaxLink+1)
}

// P1002: where both errors apply, it is ErrFull.
func TestP1002FullAheadOfBusy(t *testing.T) {
	l := at(math.MaxUint64-api.MaxLink, 1)
	send(t, l, 0, api.MaxLink)
	if e := l.Send([]byte("x")); e != api.ErrFull {
		t.Errorf("%d", e)
	}
	l = at(math.MaxUint64-api.MaxLink-1, 1)
	send(t, l, 0, api.MaxLink)
	if e := l.Send([]byte("x")); e != api.ErrBusy {
		t.Errorf("with one number left: %d", e)
	}
}

// P1003: the first 8 that wait are told, others as soon as they are among these.
func TestP1003Window(t *testing.T) {
	l := at(5, 100)
	out(t, l, 0, 5)
	send(t, l, 5, 7)
	out(t, l, 0, 5, numbers(5, 7)...)
	send(t, l, 12, 13)
	out(t, l, 0, 5, 12)
	out(t, l, 0, 5)
	hear(t, l, bare(6))
	out(t, l, 1, 5, 13)
	hear(t, l, bare(9))
	out(t, l, 1, 5, 14, 15, 16)
	hear(t, l, bare(17)) // all that was told
	out(t, l, 2, 5, numbers(17, 8)...)
	hear(t, l, bare(25))
	holds(t, l, 0, 5)
	out(t, l, 500, 5)
}

// P1003: one that is acknowledged ahead of its being told is never told.
func TestP1003AcknowledgedUntold(t *testing.T) {
	l := at(0, 1)
	send(t, l, 0, 12)
	hear(t, l, bare(10))
	out(t, l, 0, 0, 10, 11)
}

// P1003: each is told again as soon as again has gone by since it was told last.
func TestP1003Again(t *testing.T) {
	l := at(0, 10)
	send(t, l, 0, 1)
	out(t, l, 5, 0, 0)
	out(t, l, 5, 0)
	send(t, l, 1, 1)
	out(t, l, 8, 0, 1)
	out(t, l, 14, 0)
	out(t, l, 15, 0, 0)
	out(t, l, 17, 0)
	out(t, l, 18, 0, 1)
	out(t, l, 24, 0)
	out(t, l, 40, 0, 0, 1)
	out(t, l, 49, 0)
	hear(t, l, bare(1))
	out(t, l, 50, 0, 1)
}

// P1003: when now is less than the time at which it was told, it isn't told.
func TestP1003TimeGoesBack(t *testing.T) {
	l := at(0, 3)
	send(t, l, 0, 1)
	out(t, l, 10, 0, 0)
	for _, now := range []int{9, 7, 0, -10, -1 << 62, math.MinInt, math.MinInt + 10, 12} {
		out(t, l, now, 0)
	}
	send(t, l, 1, 1)
	out(t, l, 2, 0, 1)
	out(t, l, 5, 0, 1)
	out(t, l, 13, 0, 0, 1)
	out(t, l, 8, 0)
}

// P1003: times that lie as far apart as numbers may.
func TestP1003GreatTimes(t *testing.T) {
	const least, most = math.MinInt, math.MaxInt
	cases := []struct {
		again, told, now int
		want             bool
	}{
		{1, least, least, false}, {1, least, least + 1, true}, {1, least, 0, true}, {1, least, most, true},
		{1, most, most, false}, {1, most, least, false}, {1, most - 1, most, true}, {5, most, 0, false},
		{most, 0, most, true}, {most, 0, most - 1, false}, {most, 1, most, false}, {most, -1, most, true}, {most, -1, most - 1, true}, {most, -1, most - 2, false},
		{most, least, -1, true}, {most, least, -2, false}, {most, least, most, true}, {most, most, least, false},
		{1 << 62, -1 << 62, 0, true}, {1 << 62, -1 << 62, -1, false}, {1 << 62, -1 << 62, 1 << 62, true}, {1 << 62, 1 << 62, -1 << 62, false},
	}
	for _, c := range cases {
		l := at(0, c.again)
		send(t, l, 0, 1)
		out(t, l, c.told, 0, 0)
		if got := len(l.Out(c.now)) == 1; got != c.want {
			t.Errorf("again %d, told at %d: at %d it is %v", c.again, c.told, c.now, got)
		}
	}
}

// P1003: an acknowledgement is told once, alone or with bodies.
func TestP1003Owed(t *testing.T) {
	l := at(0, 10)
	out(t, l, 0, 0)
	hear(t, l, full(0, 0, "a"), "a")
	owes(t, l, 0, 1)
	out(t, l, 0, 1)
	out(t, l, 100, 1)
	hear(t, l, full(0, 1, "b"), "b")
	hear(t, l, full(0, 2, "c"), "c")
	owes(t, l, 101, 3)
	out(t, l, 101, 3)
	send(t, l, 0, 2)
	hear(t, l, full(0, 3, "d"), "d")
	out(t, l, 102, 4, 0, 1)
	out(t, l, 103, 4)
	hear(t, l, full(0, 4, "e"), "e")
	owes(t, l, 104, 5) // the bodies were told, so that nothing else is due
	out(t, l, 105, 5)
	out(t, l, 112, 5, 0, 1)
	hear(t, l, full(0, 5, "f"), "f")
	owes(t, l, -1000, 6)
}

// P1003: a packet without a body is owed nothing, nor one that is not for me.
func TestP1003NotOwed(t *testing.T) {
	l := at(0, 1)
	send(t, l, 0, 1)
	hear(t, l, bare(1))
	for _, p := range []wire.Packet{
		{From: there(), To: there(), Has: true},
		{From: here(), To: there(), Has: true},
		{From: there(), To: here(), Body: []byte("x")},
	} {
		hear(t, l, p)
	}
	out(t, l, 9, 0)
	holds(t, l, 0, 0)
}

// P1003: an acknowledgement is owed of a body that is elder, doubled, kept or too far ahead, too.
func TestP1003OwedOfAny(t *testing.T) {
	l := at(20, 1)
	hear(t, l, full(20, 20, "a"), "a")
	owes(t, l, 0, 21)
	for _, seq := range []uint64{20, 19, 0, 22, 22, 28, 29, 1000, math.MaxUint64} {
		hear(t, l, full(20, seq, "b"))
		owes(t, l, 0, 21)
		out(t, l, 0, 21)
	}
}

// P1004: of a packet that is not from the peer to me comes nothing, and nothing changes.
func TestP1004Others(t *testing.T) {
	l := at(0, 1)
	send(t, l, 0, 3)
	out(t, l, 0, 0, 0, 1, 2)
	next := ident.Proc{Node: there().Node, Life: there().Life + 1}
	young := ident.Proc{Node: here().Node, Life: here().Life + 1}
	for _, ends := range [][2]ident.Proc{
		{}, {there(), {}}, {{}, here()}, {here(), there()}, {here(), here()}, {there(), there()}, {next, here()}, {there(), young}, {ident.Proc{Node: 3, Life: 1}, here()},
	} {
		for seq := range uint64(3) {
			hear(t, l, wire.Packet{From: ends[0], To: ends[1], Ack: 2, Has: true, Seq: seq, Body: []byte("other")})
		}
		holds(t, l, 3, 0)
		out(t, l, 0, 0)
	}
	hear(t, l, full(0, 0, "a"), "a")
	hear(t, l, full(0, 1, "b"), "b")
}

// P1004: what is below Ack is acknowledged, if Ack is at most the next one's number.
func TestP1004Ack(t *testing.T) {
	cases := []struct {
		ack  uint64
		left int
	}{
		{0, 5}, {1, 5}, {9, 5}, {10, 5}, {11, 4}, {12, 3}, {14, 1}, {15, 0}, {16, 5}, {17, 5}, {1000, 5}, {math.MaxUint64, 5}, {1 << 63, 5},
	}
	for _, c := range cases {
		for _, p := range []wire.Packet{bare(c.ack), full(c.ack, 99, "far")} {
			l := at(10, 1)
			send(t, l, 10, 5)
			hear(t, l, p)
			holds(t, l, c.left, 10)
			hear(t, l, p)
			hear(t, l, bare(10))
			holds(t, l, c.left, 10)
			if p.Has && c.left == 0 {
				owes(t, l, 0, 10)
				continue
			}
			out(t, l, 0, 10, numbers(uint64(15-c.left), c.left)...)
		}
	}
}

// P1004: an Ack of more than was sent acknowledges nothing, be it that it would be right later.
func TestP1004AckAheadOfSending(t *testing.T) {
	l := at(0, 1)
	hear(t, l, bare(1))
	send(t, l, 0, 1)
	holds(t, l, 1, 0)
	hear(t, l, bare(2))
	holds(t, l, 1, 0)
	send(t, l, 1, 1)
	holds(t, l, 2, 0)
	hear(t, l, bare(2))
	holds(t, l, 0, 0)
}

// P1004: an acknowledgement that is wrong does not hinder the body beside it.
func TestP1004AckAndBody(t *testing.T) {
	l := at(0, 1)
	send(t, l, 0, 2)
	hear(t, l, full(7, 0, "a"), "a")
	holds(t, l, 2, 1)
	hear(t, l, full(1, 1, "b"), "b")
	holds(t, l, 1, 2)
	hear(t, l, full(2, 1, "b")) // doubled, but its Ack holds
	holds(t, l, 0, 2)
}

// P1004: the wanted body comes, and what was kept behind it up to a gap.
func TestP1004Gaps(t *testing.T) {
	l := at(0, 1)
	hear(t, l, full(0, 0, "0"), "0")
	holds(t, l, 0, 1)
	for _, seq := range []uint64{3, 2, 6, 7} {
		hear(t, l, full(0, seq, strconv.FormatUint(seq, 10)))
		holds(t, l, 0, 1)
	}
	hear(t, l, full(0, 1, "1"), "1", "2", "3")
	holds(t, l, 0, 4)
	hear(t, l, full(0, 5, "5"))
	hear(t, l, full(0, 4, "4"), "4", "5", "6", "7")
	holds(t, l, 0, 8)
	for seq := range uint64(8) {
		hear(t, l, full(0, seq, "again"))
	}
	holds(t, l, 0, 8)
	hear(t, l, full(0, 8, "8"), "8")
}

// P1004: what is above the wanted one by less than 8 is kept, and nothing else.
func TestP1004Far(t *testing.T) {
	for _, first := range []uint64{0, 1, 7, 8, 100, 1 << 63, math.MaxUint64 - 30} {
		for _, seq := range []uint64{first + 1, first + 6, first + 7, first + 8, first + 9, first + 20, first + 28, 0, first / 2, math.MaxUint64} {
			if seq == first {
				continue
			}
			l := at(first, 1)
			hear(t, l, full(first, seq, "ahead"))
			var came []string
			for n := range uint64(29) {
				if b := texts(l.Hear(full(first, first+n, "new"))); slices.Contains(b, "ahead") {
					came = append(came, b...)
				}
			}
			kept := seq > first && seq-first < window
			if kept != slices.Contains(came, "ahead") {
				t.Errorf("wanted is %d: %d came as %q", first, seq, came)
			}
			holds(t, l, 0, first+29)
		}
	}
}

// P1004: of several that are ahead with one number the first is kept, also an empty one.
func TestP1004FirstKept(t *testing.T) {
	l := at(0, 1)
	hear(t, l, full(0, 1, "first"))
	hear(t, l, full(0, 1, "second"))
	hear(t, l, full(0, 2, ""))
	hear(t, l, full(0, 2, "second"))
	hear(t, l, full(0, 0, "a"), "a", "first", "")
}

// P1004: a body without bytes is a body; one that the packet does not have is none.
func TestP1004Empty(t *testing.T) {
	l := at(0, 1)
	hear(t, l, full(0, 0, ""), "")
	none := full(0, 1, "")
	none.Body = nil
	hear(t, l, none, "")
	lacks := full(0, 2, "x")
	lacks.Has = false
	hear(t, l, lacks)
	holds(t, l, 0, 2)
}

// P1004: nothing wraps round at the greatest numbers: 0 isn't above them.
func TestP1004LastNumbers(t *testing.T) {
	const last = math.MaxUint64
	l := at(last-2, 1)
	for seq := range uint64(12) {
		hear(t, l, full(0, seq, "low"))
	}
	hear(t, l, full(0, last-1, "b"))
	hear(t, l, full(0, last-2, "a"), "a", "b")
	holds(t, l, 0, last)
	hear(t, l, full(0, last-1, "b"))
	for seq := range uint64(12) {
		hear(t, l, full(0, seq, "low"))
	}
	holds(t, l, 0, last)
	hear(t, l, full(0, last, "c"), "c")
	hear(t, l, full(0, last, "c"))
}

// P1005: what is waiting, and what is wanted, by what is sent, told, heard.
func TestP1005(t *testing.T) {
	l := at(3, 1)
	holds(t, l, 0, 3)
	send(t, l, 3, 20)
	holds(t, l, 20, 3)
	out(t, l, 0, 3, numbers(3, 8)...)
	holds(t, l, 20, 3)
	hear(t, l, full(3, 4, "b"))
	holds(t, l, 20, 3)
	hear(t, l, full(4, 3, "a"), "a", "b")
	holds(t, l, 19, 5)
	hear(t, l, bare(22))
	holds(t, l, 1, 5)
	hear(t, l, bare(23))
	holds(t, l, 0, 5)
	send(t, l, 23, 1)
	holds(t, l, 1, 5)
}

// line is what goes from one end to the other one: what was sent at that one, what is on its way, and what came.
type line struct {
	from, to *link.Link
	sent     []string
	flying   []wire.Packet
	came     []string
}

// tell puts what is told at a time on its way.
func (l *line) tell(now int) {
	l.flying = append(l.flying, l.from.Out(now)...)
}

// hear brings the packet at a place there, and holds what came against what was sent.
func (l *line) hear(t *testing.T, i int) {
	l.came = append(l.came, texts(l.to.Hear(l.flying[i]))...)
	if len(l.came) > len(l.sent) || !slices.Equal(l.came, l.sent[:len(l.came)]) {
		t.Fatalf("%q is no beginning of %q", l.came, l.sent)
	}
}

// send sends a body, which may be unless too many are waiting.
func (l *line) send(t *testing.T) {
	busy := l.from.Waiting() == api.MaxLink
	e := l.from.Send([]byte(body(len(l.sent))))
	if busy && e == api.ErrBusy {
		return
	}
	if busy || e != api.OK {
		t.Fatalf("with %d waiting: %d", l.from.Waiting(), e)
	}
	l.sent = append(l.sent, body(len(l.sent)))
}

// lines are those between two ends, to and fro.
func lines(first uint64, again int) [2]*line {
	a, b := at(first, again), opposite(first, again)
	return [2]*line{{from: a, to: b}, {from: b, to: a}}
}

// chance does something that may be on a line: one of what is on its way is heard, in any order, lost, or doubled, or something is sent or told.
func (l *line) chance(t *testing.T, rnd *rand.Rand, now int) {
	switch rnd.Intn(8) {
	case 0, 1:
		l.send(t)
		return
	case 2:
		l.tell(now)
		return
	}
	if len(l.flying) == 0 {
		return
	}
	i := rnd.Intn(len(l.flying))
	switch rnd.Intn(4) {
	case 0: // doubled: it is heard, and stays on its way
		l.hear(t, i)
	case 1: // lost
		l.flying = slices.Delete(l.flying, i, i+1)
	default:
		l.hear(t, i)
		l.flying = slices.Delete(l.flying, i, i+1)
	}
}

// P1006: whatever is lost, doubled, late, what comes is a beginning of what was sent; if all is told and heard again and again, all comes.
func TestP1006InOrderAndOnce(t *testing.T) {
	rnd := rand.New(rand.NewSource(1006))
	for round := range 300 {
		first := []uint64{0, 1, 1 << 40, math.MaxUint64 - 2000}[round%4]
		both := lines(first, 1+rnd.Intn(6))
		now := rnd.Intn(2000) - 1000
		for range 400 {
			both[rnd.Intn(2)].chance(t, rnd, now)
			now += rnd.Intn(3)
		}
		for range 40 {
			now += 10
			for _, l := range both {
				l.tell(now)
				for i := range l.flying {
					l.hear(t, i)
				}
				l.flying = nil
			}
		}
		for i, l := range both {
			if len(l.came) != len(l.sent) || !l.from.Idle() || l.to.Want() != first+uint64(len(l.sent)) {
				t.Fatalf("round %d, line %d: %d came of %d, %d wait", round, i, len(l.came), len(l.sent), l.from.Waiting())
			}
			if packets := l.from.Out(now + 10); len(packets) != 0 {
				t.Fatalf("round %d, line %d: %v is told, though all came", round, i, packets)
			}
		}
	}
}

// The chapter's example: a body is sent, told and lost; told again behind again ticks.
func TestP1006LostOnce(t *testing.T) {
	a, b := at(1, 4), opposite(1, 4)
	send(t, a, 1, 1)
	out(t, a, 7, 1, 1) // lost
	out(t, a, 10, 1)
	packets := a.Out(11)
	if len(packets) != 1 {
		t.Fatalf("%d packets", len(packets))
	}
	for i, want := range []int{1, 0} { // it comes twice
		if came := b.Hear(packets[0]); len(came) != want {
			t.Errorf("%d: %q comes", i, came)
		}
	}
	acks := b.Out(12)
	if len(acks) != 1 || acks[0].Has || acks[0].Ack != 2 || len(a.Hear(acks[0])) != 0 {
		t.Errorf("%v", acks)
	}
	holds(t, a, 0, 1)
}

// told is a body of the model's, with its times.
type told struct {
	seq   uint64
	body  string
	times []int
}

// model is a link as the chapter's words have it, done as plainly as may be: it keeps all that was ever sent and heard.
type model struct {
	first  uint64
	again  int
	sent   []told
	acked  int
	heard  map[uint64]string
	wanted uint64
	owed   bool
}

func (m *model) next() uint64 { return m.first + uint64(len(m.sent)) }

func (m *model) send(b string) api.Errno {
	if m.next() == math.MaxUint64 {
		return api.ErrFull
	}
	if len(m.sent)-m.acked == api.MaxLink {
		return api.ErrBusy
	}
	m.sent = append(m.sent, told{seq: m.next(), body: b})
	return api.OK
}

func (m *model) hear(p wire.Packet) []string {
	if p.From != there() || p.To != here() {
		return nil
	}
	for p.Ack <= m.next() && m.acked < len(m.sent) && m.sent[m.acked].seq < p.Ack {
		m.acked++
	}
	if !p.Has {
		return nil
	}
	m.owed = true
	if _, old := m.heard[p.Seq]; !old && p.Seq >= m.wanted && p.Seq-m.wanted < window {
		m.heard[p.Seq] = string(p.Body)
	}
	var came []string
	for b, is := m.heard[m.wanted]; is; b, is = m.heard[m.wanted] {
		came = append(came, b)
		m.wanted++
	}
	return came
}

func (m *model) out(now int) []wire.Packet {
	var l []wire.Packet
	for i := m.acked; i < len(m.sent) && i < m.acked+window; i++ {
		s := &m.sent[i]
		if n := len(s.times); n > 0 && now-s.times[n-1] < m.again {
			continue
		}
		s.times = append(s.times, now)
		l = append(l, wire.Packet{From: here(), To: there(), Ack: m.wanted, Has: true, Seq: s.seq, Body: []byte(s.body)})
	}
	if len(l) == 0 && m.owed {
		l = append(l, wire.Packet{From: here(), To: there(), Ack: m.wanted})
	}
	m.owed = false
	return l
}

// near is a number about another one, now and then a far one.
func near(rnd *rand.Rand, n uint64) uint64 {
	if rnd.Intn(20) == 0 {
		return rnd.Uint64()
	}
	return n + uint64(rnd.Intn(24)) - 10
}

// drawn is a packet that comes here, mostly from the peer.
func drawn(rnd *rand.Rand, m *model) wire.Packet {
	p := bare(near(rnd, m.first+uint64(m.acked)+5))
	if rnd.Intn(4) > 0 {
		p = full(p.Ack, near(rnd, m.wanted), body(rnd.Intn(1000)))
	}
	if rnd.Intn(10) == 0 {
		p.From, p.To = p.To, p.From
	}
	return p
}

func samePacket(a, b wire.Packet) bool {
	return a.From == b.From && a.To == b.To && a.Seq == b.Seq && a.Ack == b.Ack && a.Has == b.Has && bytes.Equal(a.Body, b.Body)
}

// P1002 to P1005: any calls, also of packets that no link tells, are answered as by the model.
func TestP1005AsTheModel(t *testing.T) {
	rnd := rand.New(rand.NewSource(1005))
	for round := range 200 {
		first := []uint64{0, 3, 1 << 50, math.MaxUint64 - 40}[round%4]
		m := &model{first: first, again: 1 + rnd.Intn(9), heard: map[uint64]string{}, wanted: first}
		l := at(first, m.again)
		now := 0
		for step := range 400 {
			switch rnd.Intn(5) {
			case 0, 1:
				b := body(step)
				if e, want := l.Send([]byte(b)), m.send(b); e != want {
					t.Fatalf("round %d, step %d: Send is %d, not %d", round, step, e, want)
				}
			case 2, 3:
				if m.wanted > math.MaxUint64-10 {
					continue
				}
				p := drawn(rnd, m)
				if came, want := texts(l.Hear(p)), m.hear(p); !slices.Equal(came, want) {
					t.Fatalf("round %d, step %d: of %v comes %q, not %q", round, step, p, came, want)
				}
			case 4:
				now += rnd.Intn(8) - 1
				if packets, want := l.Out(now), m.out(now); !slices.EqualFunc(packets, want, samePacket) {
					t.Fatalf("round %d, step %d: Out(%d) is %v, not %v", round, step, now, packets, want)
				}
			}
			holds(t, l, len(m.sent)-m.acked, m.wanted)
		}
	}
}
