package wire_test

import (
	"bytes"
	"math"
	"math/rand"
	"slices"
	"strings"
	"testing"

	"gemot/api"
	"gemot/ident"
	"gemot/wire"
)

// packet is one with a body.
func packet() wire.Packet {
	return wire.Packet{From: proc(0, 1), To: proc(2, 1), Seq: 1, Has: true, Body: []byte("\x06\x01\x02\xac\x02")}
}

// bytesOfPacket are packet's, without their sum.
const bytesOfPacket = "\x00\x01\x02\x01\x01\x00\x01\x05\x06\x01\x02\xac\x02"

// samePacket tells whether two packets are the same in all fields.
func samePacket(a, b wire.Packet) bool {
	return a.From == b.From && a.To == b.To && a.Seq == b.Seq && a.Ack == b.Ack && a.Has == b.Has && bytes.Equal(a.Body, b.Body)
}

// summed are bytes with their sum behind them, bit by bit as chapter 1 tells it.
func summed(s string) []byte {
	sum := ^uint32(0)
	for _, c := range []byte(s) {
		for bit := 7; bit >= 0; bit-- {
			differ := sum>>31 != uint32(c>>bit&1)
			sum <<= 1
			if differ {
				sum ^= 0x04c11db7
			}
		}
	}
	sum = ^sum
	return append([]byte(s), byte(sum>>24), byte(sum>>16), byte(sum>>8), byte(sum))
}

// P704: the bytes of frames, and the packets of these bytes.
func TestP704Frames(t *testing.T) {
	cases := []struct {
		p    wire.Packet
		want string
	}{
		{packet(), bytesOfPacket + "\xf2\xb0\xbd\x1e"},
		{wire.Packet{From: proc(15, 300), To: proc(2, 1), Ack: 300}, "\x0f\xac\x02\x02\x01\x00\xac\x02\x00\x2b\xb4\x7d\xa9"},
		{wire.Packet{From: proc(0, 1), To: proc(2, 1), Seq: 1, Has: true}, string(summed("\x00\x01\x02\x01\x01\x00\x01\x00"))},
		{wire.Packet{From: proc(0, 1), To: proc(2, 1), Seq: 1, Has: true, Body: []byte{}}, string(summed("\x00\x01\x02\x01\x01\x00\x01\x00"))},
		{wire.Packet{From: proc(0, 1), To: proc(2, 1), Seq: 1}, "\x00\x01\x02\x01\x01\x00\x00" + string(summed("\x00\x01\x02\x01\x01\x00\x00")[7:])},
		{wire.Packet{From: proc(0, 1), To: proc(0, 1), Body: []byte{}}, string(summed("\x00\x01\x00\x01\x00\x00\x00"))},
		{wire.Packet{From: proc(15, math.MaxUint16), To: proc(0, 1), Seq: math.MaxUint64, Ack: 1 << 63}, string(summed("\x0f\xff\xff\x03\x00\x01\xff\xff\xff\xff\xff\xff\xff\xff\xff\x01\x80\x80\x80\x80\x80\x80\x80\x80\x80\x01\x00"))},
		{wire.Packet{From: proc(1, 1), To: proc(2, 2), Has: true, Body: []byte(strings.Repeat("b", 300))}, string(summed("\x01\x01\x02\x02\x00\x00\x01\xac\x02" + strings.Repeat("b", 300)))},
	}
	for _, c := range cases {
		got, e := wire.Frame(c.p)
		if e != api.OK || string(got) != c.want {
			t.Errorf("Frame of %+v: %q, %d, not %q", c.p, got, e, c.want)
		}
		if p, e := wire.Unframe([]byte(c.want)); e != api.OK || !samePacket(p, c.p) {
			t.Errorf("Unframe of %q: %+v, %d", c.want, p, e)
		}
	}
}

// P704: packets that there may not be.
func TestP704FrameRefused(t *testing.T) {
	const big = api.MaxFrame + 1
	cases := []struct {
		name   string
		change func(p *wire.Packet)
		want   api.Errno
	}{
		{"from nobody", func(p *wire.Packet) { p.From = ident.Proc{} }, api.ErrArg},
		{"from no node", func(p *wire.Packet) { p.From.Node = api.MaxNodes }, api.ErrArg},
		{"for nobody", func(p *wire.Packet) { p.To = ident.Proc{} }, api.ErrArg},
		{"for no life", func(p *wire.Packet) { p.To.Life = 0 }, api.ErrArg},
		{"a body that it does not have", func(p *wire.Packet) { p.Has = false }, api.ErrArg},
		{"a body that is too long", func(p *wire.Packet) { p.Body = make([]byte, big) }, api.ErrSize},
		{"a body that is far too long", func(p *wire.Packet) { p.Body = make([]byte, 10*big) }, api.ErrSize},
		{"a body that is too long, and none", func(p *wire.Packet) { p.Has, p.Body = false, make([]byte, big) }, api.ErrArg},
		{"a body that is too long, from nobody", func(p *wire.Packet) { p.From, p.Body = ident.Proc{}, make([]byte, big) }, api.ErrArg},
	}
	for _, c := range cases {
		p := packet()
		c.change(&p)
		if b, e := wire.Frame(p); e != c.want || len(b) != 0 {
			t.Errorf("%s: %d bytes, %d, not %d", c.name, len(b), e, c.want)
		}
	}
	if b, e := wire.Frame(wire.Packet{}); e != api.ErrArg || len(b) != 0 {
		t.Errorf("nothing: %q, %d", b, e)
	}
}

// P704: a frame has MaxFrame bytes in all, and no more.
func TestP704Long(t *testing.T) {
	const others = 7 + 3 + 4 // beside the body: the fields ahead of it, its length and the sum
	for n := api.MaxFrame - others - 2; n <= api.MaxFrame-others+2; n++ {
		p := packet()
		p.Body = bytes.Repeat([]byte{'b'}, n)
		b, e := wire.Frame(p)
		if n+others > api.MaxFrame {
			if e != api.ErrSize || len(b) != 0 {
				t.Errorf("a body of %d: %d bytes, %d", n, len(b), e)
			}
			continue
		}
		if e != api.OK || len(b) != n+others {
			t.Errorf("a body of %d: %d bytes, %d", n, len(b), e)
		}
		if got, e := wire.Unframe(b); e != api.OK || !samePacket(got, p) {
			t.Errorf("a body of %d: %d", n, e)
		}
	}
	whole := string(summed("\x00\x01\x02\x01\x01\x00\x01\xf3\xff\x1f" + strings.Repeat("b", api.MaxFrame-others+1)))
	unframed(t, []byte(whole), api.ErrSize)
	unframed(t, make([]byte, api.MaxFrame+1), api.ErrSize)
	unframed(t, make([]byte, api.MaxFrame), api.ErrSum)
}

// unframed tells of bytes that are said to be no frame.
func unframed(t *testing.T, b []byte, want api.Errno) {
	t.Helper()
	if p, e := wire.Unframe(b); e != want || !samePacket(p, wire.Packet{}) {
		t.Errorf("Unframe of %.80q: %+v, %d, not %d", b, p, e, want)
	}
}

// P704: bytes whose sum is right, and that are no frame.
func TestP704UnframeRefused(t *testing.T) {
	const head = "\x00\x01\x02\x01\x01\x00"
	cases := []struct {
		in   string
		want api.Errno
	}{
		{"", api.ErrForm},
		{head, api.ErrForm},
		{head + "\x02", api.ErrForm}, // Has
		{head + "\x02\x00", api.ErrForm},
		{head + "\xff", api.ErrForm},
		{head + "\x00\x00", api.ErrForm}, // bytes that are left
		{head + "\x01\x00\x00", api.ErrForm},
		{bytesOfPacket + "b", api.ErrForm},
		{head + "\x01", api.ErrForm}, // no body, and less of it than is told
		{head + "\x01\x02b", api.ErrForm},
		{head + "\x01\x81\x80\x20", api.ErrSize},              // more than there may be of it
		{"\x00\x80\x80\x04\x02\x01\x01\x00\x00", api.ErrSize}, // a life of more than 16 bits
		{"\x00\x01\x02\x80\x80\x04\x01\x00\x00", api.ErrSize},
		{"\x00\x01\x02\x01\x81\x00\x00\x00", api.ErrForm},              // a needless last group
		{"\x00\x01\x02\x01" + strings.Repeat("\xff", 10), api.ErrForm}, // a number of more than 64 bits
		{"\x10\x01\x02\x01\x01\x00\x00", api.ErrForm},                  // processes that may not be
		{"\x00\x00\x02\x01\x01\x00\x00", api.ErrForm},
		{"\x00\x01\xff\x01\x01\x00\x00", api.ErrForm},
		{"\x00\x01\x02\x00\x01\x00\x00", api.ErrForm},
		{"\x10\x01\x02\x80\x80\x04\x01\x00\x00", api.ErrSize},          // an error of reading is ahead of them
		{"\x00\x80\x80\x04\x02\x01\x01\x00\x02", api.ErrSize},          // and of Has
		{"\x00\x80\x80\x04\x02\x01\x01\x00\x00" + "left", api.ErrSize}, // and of bytes that are left
	}
	for _, c := range cases {
		unframed(t, summed(c.in), c.want)
	}
	for n := range len(bytesOfPacket) {
		unframed(t, summed(bytesOfPacket[:n]), api.ErrForm)
	}
}

// P704: bytes without the right sum.
func TestP704Sum(t *testing.T) {
	whole, _ := wire.Frame(packet())
	for n := range len(whole) {
		unframed(t, whole[:n], api.ErrSum)
	}
	for n := 1; n < len(whole); n++ {
		unframed(t, whole[n:], api.ErrSum)
	}
	turned := slices.Clone(whole)
	slices.Reverse(turned[len(turned)-4:])
	unframed(t, turned, api.ErrSum)
	unframed(t, append(slices.Clone(whole), 0), api.ErrSum)
	unframed(t, nil, api.ErrSum)
	unframed(t, []byte{0, 0, 0}, api.ErrSum)
	unframed(t, []byte{0, 0, 0, 1}, api.ErrSum)
	unframed(t, []byte{0, 0, 0, 0}, api.ErrForm) // the sum of nothing
}

// P705: any right packet is read as it was.
func TestP705PacketsThereAndBack(t *testing.T) {
	rnd := rand.New(rand.NewSource(7051))
	any := func() ident.Proc { return proc(uint8(rnd.Intn(api.MaxNodes)), uint16(1+rnd.Intn(math.MaxUint16))) }
	for range 20000 {
		p := wire.Packet{From: any(), To: any(), Seq: rnd.Uint64() >> rnd.Intn(64), Ack: rnd.Uint64() >> rnd.Intn(64), Has: rnd.Intn(2) == 0}
		if p.Has {
			p.Body = make([]byte, rnd.Intn(300))
			rnd.Read(p.Body)
		}
		b, e := wire.Frame(p)
		if e != api.OK {
			t.Fatalf("%+v: %d", p, e)
		}
		if got, e := wire.Unframe(b); e != api.OK || !samePacket(got, p) {
			t.Fatalf("%+v came back of %+v, %d", got, p, e)
		}
	}
}

// P705: what is read of any frame, and told again, are the bytes that were read.
func TestP705FramesToldAgain(t *testing.T) {
	rnd := rand.New(rand.NewSource(7052))
	odd := []byte{0, 1, 2, 3, 4, 5, 0x0f, 0x10, 0x7f, 0x80, 0xff}
	read := 0
	for range 200000 {
		b := []byte(bytesOfPacket)
		b = b[:7+rnd.Intn(len(b)-6)]
		for range rnd.Intn(4) {
			b[rnd.Intn(len(b))] = odd[rnd.Intn(len(odd))]
		}
		b = summed(string(b))
		p, e := wire.Unframe(b)
		if e != api.OK {
			if !samePacket(p, wire.Packet{}) || e != api.ErrForm && e != api.ErrSize {
				t.Fatalf("%+v beside error %d", p, e)
			}
			continue
		}
		read++
		if got, e := wire.Frame(p); e != api.OK || !bytes.Equal(got, b) {
			t.Fatalf("%+v was read of %q, and told as %q, %d", p, b, got, e)
		}
	}
	if read == 0 {
		t.Error("nothing was read")
	}
}

// P706: a frame is refused if up to four bytes that stand side by side are changed, the sum's among them.
func TestP706Spoilt(t *testing.T) {
	rnd := rand.New(rand.NewSource(706))
	var bodies []string
	for _, n := range []int{0, 1, 40, 3000} {
		bodies = append(bodies, strings.Repeat("b", n))
	}
	for _, body := range append(bodies, bytesOfMessages()...) {
		p := packet()
		p.Body = []byte(body)
		whole, e := wire.Frame(p)
		if e != api.OK {
			t.Fatal(e)
		}
		b := slices.Clone(whole)
		for at := range b {
			for mask := 1; mask < 256; mask += 1 + len(b)/100 {
				b[at] ^= byte(mask)
				unframed(t, b, api.ErrSum)
				b[at] = whole[at]
			}
			for range 40 {
				spoil(rnd, b[at:min(at+4, len(b))])
				unframed(t, b, api.ErrSum)
				copy(b, whole)
			}
		}
	}
}

// spoil changes one of a few bytes for sure, and the others as may be.
func spoil(rnd *rand.Rand, l []byte) {
	sure := rnd.Intn(len(l))
	for i := range l {
		if i == sure {
			l[i] ^= byte(1 + rnd.Intn(255))
		} else {
			l[i] ^= byte(rnd.Intn(256))
		}
	}
}

// P701: what is handed in is not changed, nor the room behind it, and what is told shares nothing with it.
func TestP701FramesApart(t *testing.T) {
	p := packet()
	p.Body = room(p.Body, 99)
	one, _ := wire.Frame(p)
	two, _ := wire.Frame(p)
	_ = append(one, 99)
	clear(one)
	if !samePacket(p, packet()) || p.Body[:6][5] != 99 || string(two) != string(summed(bytesOfPacket)) {
		t.Errorf("%+v, %q", p, two)
	}
	b := room(two, 99)
	x, _ := wire.Unframe(b)
	y, _ := wire.Unframe(b)
	_ = append(x.Body, 99)
	clear(x.Body)
	if !bytes.Equal(b, two) || b[:len(b)+1][len(b)] != 99 {
		t.Errorf("%q", b)
	}
	clear(b)
	if !samePacket(y, packet()) {
		t.Errorf("%+v", y)
	}
}
