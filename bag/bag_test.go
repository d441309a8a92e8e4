package bag_test

import (
	"bytes"
	"math"
	"math/rand"
	"slices"
	"strings"
	"testing"

	"gemot/api"
	"gemot/bag"
	"gemot/ident"
)

// parcel is one with these bytes, from and to processes by its number, so that no two of different numbers are alike.
func parcel(n int, b string) bag.Parcel {
	return bag.Parcel{From: ident.Proc{Node: 1, Life: uint16(n)}, To: ident.Proc{Node: 2, Life: uint16(n + 1)}, B: []byte(b)}
}

// bad is such a parcel that is spoilt.
func bad(n int, b string) bag.Parcel {
	p := parcel(n, b)
	p.Bad = true
	return p
}

// same tells whether two parcels are the same in all fields.
func same(a, b bag.Parcel) bool {
	return a.From == b.From && a.To == b.To && a.Bad == b.Bad && bytes.Equal(a.B, b.B)
}

// of is a bag of at most most, with these parcels.
func of(most int, l ...bag.Parcel) *bag.Bag {
	b := bag.New(most)
	for _, p := range l {
		b.Put(p)
	}
	return b
}

// wrongPlaces are places that there are not, where n parcels are.
func wrongPlaces(n int) []int {
	return []int{-1, -n - 1, math.MinInt, n, n + 1, math.MaxInt}
}

// holds fails, unless just these parcels are in the bag, in that order.
func holds(t *testing.T, b *bag.Bag, want ...bag.Parcel) {
	t.Helper()
	if b.Len() != len(want) {
		t.Errorf("%d are in, not %d", b.Len(), len(want))
	}
	for i, w := range want {
		if p, e := b.Look(i); e != api.OK || !same(p, w) {
			t.Errorf("at %d: %v, %d, not %v", i, p, e, w)
		}
	}
	for _, i := range wrongPlaces(len(want)) {
		if p, e := b.Look(i); e != api.ErrNone || !same(p, bag.Parcel{}) {
			t.Errorf("at %d: %v, %d", i, p, e)
		}
	}
}

// P801: a nil Bag, and one that New did not make.
func TestP801NilAndUnmade(t *testing.T) {
	var none *bag.Bag
	for name, b := range map[string]*bag.Bag{"nil": none, "unmade": {}} {
		for range 2 { // what was refused must not have made it one
			if e := b.Put(parcel(1, "abcd")); e != api.ErrArg {
				t.Errorf("%s: Put is %d", name, e)
			}
			for _, i := range []int{0, 1, -1, math.MinInt, math.MaxInt} {
				if p, e := b.Look(i); e != api.ErrArg || !same(p, bag.Parcel{}) {
					t.Errorf("%s: Look is %v, %d", name, p, e)
				}
				if p, e := b.Take(i); e != api.ErrArg || !same(p, bag.Parcel{}) {
					t.Errorf("%s: Take is %v, %d", name, p, e)
				}
				if b.Twice(i) != api.ErrArg || b.Spoil(i, 0, 1) != api.ErrArg || b.Spoil(i, -1, 0) != api.ErrArg {
					t.Errorf("%s: Twice or Spoil", name)
				}
			}
			if b.Len() != 0 || len(b.All()) != 0 {
				t.Errorf("%s: something is in", name)
			}
		}
	}
}

// P801: what is put is not changed, nor the room behind it, and not kept.
func TestP801PutApart(t *testing.T) {
	room := []byte("abcdef, and room")
	p := parcel(1, "")
	p.B = room[:6]
	b := of(5, p, p)
	b.Twice(0)
	b.Spoil(1, 2, math.MaxUint32)
	b.Spoil(2, 0, math.MaxUint32)
	if string(room) != "abcdef, and room" || p.Bad || len(p.B) != 6 {
		t.Errorf("what was put is %q now", room)
	}
	clear(room)
	holds(t, b, parcel(1, "abcdef"), bad(1, "ab\x9c\x9b\x9a\x99"), bad(1, "\x9e\x9d\x9c\x9bef"))
}

// P801: what is told shares nothing with the bag, nor with what else is told, not even room.
func TestP801ToldApart(t *testing.T) {
	b := of(9, parcel(1, "first"), parcel(2, "second"), parcel(3, "third"), parcel(4, "fourth"))
	b.Twice(1)
	var told []bag.Parcel
	for _, i := range []int{0, 0, 1, 4, 2} {
		p, _ := b.Look(i)
		told = append(told, p)
	}
	out, _ := b.Take(3)
	told = append(told, out)
	for _, p := range told {
		_ = append(p.B, "more than there may be room for"...)
		clear(p.B[:cap(p.B)])
	}
	holds(t, b, parcel(1, "first"), parcel(2, "second"), parcel(3, "third"), parcel(2, "second"))
	all := b.All()
	for i := range all {
		_ = append(all[i].B, "and so on"...)
		clear(all[i].B[:cap(all[i].B)])
		for j := range all {
			if j > i && bytes.IndexByte(all[j].B, 0) >= 0 {
				t.Errorf("%d and %d share", i, j)
			}
		}
	}
	_ = append(all, parcel(9, "ninth"))
	clear(all[:cap(all)])
	holds(t, b)
	if b.Put(parcel(5, "fifth")) != api.OK || b.Put(parcel(6, "sixth")) != api.OK {
		t.Error("no room behind All")
	}
	_ = append(all[:0], parcel(9, "ninth"), parcel(9, "ninth"))
	holds(t, b, parcel(5, "fifth"), parcel(6, "sixth"))
}

// P801: what was taken, or told by All, is not changed by what is done to the bag later.
func TestP801TakenApart(t *testing.T) {
	b := of(9, parcel(1, "aaaaa"), parcel(2, "bbbbb"), parcel(3, "ccccc"))
	b.Twice(0)
	a, _ := b.Take(0)
	twin := 2
	b.Spoil(twin, 0, math.MaxUint32)
	b.Put(parcel(4, "ddddd"))
	l := b.All()
	b.Put(parcel(5, "eeeee"))
	b.Spoil(0, 0, math.MaxUint32)
	b.Twice(0)
	if !same(a, parcel(1, "aaaaa")) || !same(l[0], parcel(2, "bbbbb")) || !same(l[3], parcel(4, "ddddd")) {
		t.Error(a, l)
	}
}

// P801: two bags have nothing to do with each other.
func TestP801TwoBags(t *testing.T) {
	a, b := of(2, parcel(1, "a")), of(3)
	p, _ := a.Look(0)
	b.Put(p)
	b.Put(parcel(2, "bcde"))
	holds(t, a, parcel(1, "a"))
	a.All()
	holds(t, b, parcel(1, "a"), parcel(2, "bcde"))
}

// P802: how many a bag takes.
func TestP802Most(t *testing.T) {
	cases := []struct{ most, want int }{
		{0, 0}, {-1, 0}, {math.MinInt, 0}, {1, 1}, {2, 2}, {7, 7},
		{api.MaxBag - 1, api.MaxBag - 1}, {api.MaxBag, api.MaxBag}, {api.MaxBag + 1, api.MaxBag}, {math.MaxInt, api.MaxBag},
	}
	for _, c := range cases {
		b := bag.New(c.most)
		holds(t, b)
		for n := range c.want {
			if e := b.Put(parcel(n, "x")); e != api.OK {
				t.Fatalf("a bag of %d: %d at the %dth", c.most, e, n)
			}
		}
		if e := b.Put(parcel(5, "y")); e != api.ErrFull || b.Len() != c.want {
			t.Errorf("a bag of %d: %d, then %d are in", c.most, e, b.Len())
		}
		if c.want == 0 {
			continue
		}
		if p, e := b.Look(c.want - 1); e != api.OK || !same(p, parcel(c.want-1, "x")) {
			t.Errorf("a bag of %d: the last is %v, %d", c.most, p, e)
		}
		if b.Twice(0) != api.ErrFull || b.Len() != c.want {
			t.Errorf("a bag of %d: Twice, though it is full", c.most)
		}
		if l := b.All(); len(l) != c.want || b.Put(parcel(5, "y")) != api.OK {
			t.Errorf("a bag of %d: %d were in", c.most, len(l))
		}
	}
}

// P802: any parcel is put, whatever its processes and bytes are, and told as it was.
func TestP802AnyParcel(t *testing.T) {
	l := []bag.Parcel{
		{},
		{B: []byte{}},
		{Bad: true},
		bad(1, "abcd"),
		{From: ident.Proc{Node: 255}, To: ident.Proc{Node: 255, Life: math.MaxUint16}, B: []byte("\x00\xff")},
		parcel(2, strings.Repeat("b", api.MaxFrame+1)),
		parcel(3, "c"),
		parcel(3, "c"),
	}
	b := bag.New(len(l))
	for _, p := range l {
		if e := b.Put(p); e != api.OK {
			t.Errorf("Put is %d", e)
		}
	}
	holds(t, b, l...)
	for i, p := range b.All() {
		if !same(p, l[i]) {
			t.Errorf("%d is not what was put", i)
		}
	}
}

// P802: Look changes nothing.
func TestP802Look(t *testing.T) {
	l := []bag.Parcel{parcel(1, "a"), parcel(2, "b"), bad(3, "c")}
	b := of(3, l...)
	for range 3 {
		holds(t, b, l...)
	}
	for _, i := range wrongPlaces(3) {
		if p, e := b.Look(i); e != api.ErrNone || !same(p, bag.Parcel{}) {
			t.Errorf("at %d: %v, %d", i, p, e)
		}
	}
}

// P802: what is taken is out, and those behind it are one place ahead.
func TestP802Take(t *testing.T) {
	l := []bag.Parcel{parcel(1, "a"), parcel(2, "b"), parcel(3, "c"), parcel(4, "d")}
	for at := range l {
		b := of(4, l...)
		for _, i := range wrongPlaces(len(l)) {
			if p, e := b.Take(i); e != api.ErrNone || !same(p, bag.Parcel{}) {
				t.Errorf("Take(%d): %v, %d", i, p, e)
			}
		}
		holds(t, b, l...)
		if p, e := b.Take(at); e != api.OK || !same(p, l[at]) {
			t.Errorf("Take(%d): %v, %d", at, p, e)
		}
		rest := slices.Delete(slices.Clone(l), at, at+1)
		holds(t, b, rest...)
		if b.Put(parcel(5, "e")) != api.OK || b.Put(parcel(6, "f")) != api.ErrFull {
			t.Error("room for one")
		}
		holds(t, b, append(rest, parcel(5, "e"))...)
	}
	b := of(1, parcel(1, "a"))
	b.Take(0)
	if p, e := b.Take(0); e != api.ErrNone || !same(p, bag.Parcel{}) {
		t.Error(p, e)
	}
	holds(t, b)
}

// P802: one like the parcel at a place is the last.
func TestP802Twice(t *testing.T) {
	b := of(5, parcel(1, "aaaa"), parcel(2, "bbbb"))
	for _, i := range wrongPlaces(2) {
		if e := b.Twice(i); e != api.ErrNone {
			t.Errorf("Twice(%d): %d", i, e)
		}
	}
	holds(t, b, parcel(1, "aaaa"), parcel(2, "bbbb"))
	if b.Twice(0) != api.OK {
		t.Error("Twice(0)")
	}
	holds(t, b, parcel(1, "aaaa"), parcel(2, "bbbb"), parcel(1, "aaaa"))
	b.Spoil(1, 0, 1)
	if b.Twice(1) != api.OK || b.Twice(3) != api.OK {
		t.Error("Twice of what is spoilt, and of one like it")
	}
	want := []bag.Parcel{parcel(1, "aaaa"), bad(2, "cbbb"), parcel(1, "aaaa"), bad(2, "cbbb"), bad(2, "cbbb")}
	holds(t, b, want...)
	if b.Twice(0) != api.ErrFull || b.Twice(5) != api.ErrNone || b.Twice(-1) != api.ErrNone {
		t.Error("Twice of a full bag")
	}
	holds(t, b, want...)
	if none := bag.New(0); none.Twice(0) != api.ErrNone {
		t.Error("Twice of a bag that takes none")
	}
}

// P802: All in order, and they are out.
func TestP802All(t *testing.T) {
	b := of(3, parcel(1, "a"), parcel(2, "b"), parcel(3, "c"))
	b.Take(0)
	b.Twice(0)
	want := []bag.Parcel{parcel(2, "b"), parcel(3, "c"), parcel(2, "b")}
	if l := b.All(); !slices.EqualFunc(l, want, same) {
		t.Error(l)
	}
	holds(t, b)
	if l := b.All(); len(l) != 0 {
		t.Error(l)
	}
	for n := range 3 {
		if e := b.Put(parcel(n, "x")); e != api.OK {
			t.Error(n, e)
		}
	}
	if b.Put(parcel(4, "x")) != api.ErrFull {
		t.Error("the bag takes more than before")
	}
}

// P803: four bytes are changed, by the mask's bytes, the lowest first.
func TestP803Spoil(t *testing.T) {
	cases := []struct {
		in   string
		at   int
		mask uint32
		want string
	}{
		{"\x00\x00\x00\x00", 0, 0x04030201, "\x01\x02\x03\x04"},
		{"\x00\x00\x00\x00\x00\x00", 0, 0x04030201, "\x01\x02\x03\x04\x00\x00"},
		{"\x00\x00\x00\x00\x00\x00", 1, 0x04030201, "\x00\x01\x02\x03\x04\x00"},
		{"\x00\x00\x00\x00\x00\x00", 2, 0x04030201, "\x00\x00\x01\x02\x03\x04"},
		{"\xff\x0f\xf0\x00", 0, 0xffffffff, "\x00\xf0\x0f\xff"},
		{"\x01\x02\x03\x04", 0, 0x04030201, "\x00\x00\x00\x00"},
		{"abcd", 0, 1, "`bcd"},
		{"abcd", 0, 1 << 31, "abc\xe4"},
		{"abcd", 0, 1 << 8, "accd"},
		{strings.Repeat("z", 1000), 996, 0x20202020, strings.Repeat("z", 996) + "ZZZZ"},
	}
	for _, c := range cases {
		b := of(3, parcel(1, c.in), parcel(2, c.in), parcel(3, c.in))
		if e := b.Spoil(1, c.at, c.mask); e != api.OK {
			t.Errorf("Spoil(%q, %d, %x): %d", c.in, c.at, c.mask, e)
		}
		holds(t, b, parcel(1, c.in), bad(2, c.want), parcel(3, c.in))
		if p, e := b.Take(1); e != api.OK || !same(p, bad(2, c.want)) {
			t.Errorf("Spoil(%q, %d, %x): %v is taken", c.in, c.at, c.mask, p)
		}
	}
}

// P803: what is not spoilt, and which error is told first.
func TestP803Errors(t *testing.T) {
	l := []bag.Parcel{parcel(1, "abcdef"), bad(2, "abcdef"), parcel(3, "abc"), {}, parcel(5, "abcd"), bad(6, "")}
	cases := []struct {
		i, at int
		mask  uint32
		want  api.Errno
	}{
		{-1, 0, 1, api.ErrNone},
		{6, 0, 1, api.ErrNone},
		{math.MinInt, 0, 0, api.ErrNone},
		{math.MaxInt, -1, 0, api.ErrNone},
		{1, 0, 1, api.ErrThere},
		{1, 0, 0, api.ErrThere},
		{1, -1, 1, api.ErrThere},
		{1, 100, 0, api.ErrThere},
		{5, 0, 1, api.ErrThere},
		{0, 0, 0, api.ErrArg},
		{0, -1, 0, api.ErrArg},
		{0, 3, 0, api.ErrArg},
		{2, 0, 0, api.ErrArg},
		{0, -1, 1, api.ErrRange},
		{0, -4, 1, api.ErrRange},
		{0, math.MinInt, 1, api.ErrRange},
		{0, math.MinInt + 3, 1, api.ErrRange},
		{0, 3, 1, api.ErrRange},
		{0, 6, 1, api.ErrRange},
		{0, 7, 1, api.ErrRange},
		{0, math.MaxInt, 1, api.ErrRange},
		{0, math.MaxInt - 3, 1, api.ErrRange},
		{2, 0, 1, api.ErrRange},
		{2, -1, 1, api.ErrRange},
		{3, 0, math.MaxUint32, api.ErrRange},
		{3, -4, math.MaxUint32, api.ErrRange},
		{4, 1, 1, api.ErrRange},
	}
	b := of(6, l...)
	for _, c := range cases {
		if e := b.Spoil(c.i, c.at, c.mask); e != c.want {
			t.Errorf("Spoil(%d, %d, %x): %d, not %d", c.i, c.at, c.mask, e, c.want)
		}
	}
	holds(t, b, l...)
	if b.Spoil(4, 0, 1) != api.OK || b.Spoil(0, 2, 1) != api.OK {
		t.Error("four bytes are enough")
	}
}

// P803: what is spoilt is spoilt once; what is like it, too; what it was made like stays whole.
func TestP803Once(t *testing.T) {
	b := of(4, parcel(1, "abcd"))
	b.Twice(0)
	if b.Spoil(0, 0, 1) != api.OK || b.Spoil(0, 0, 1) != api.ErrThere || b.Spoil(0, 0, 2) != api.ErrThere {
		t.Error("Spoil, twice")
	}
	b.Twice(0)
	if b.Spoil(2, 0, 1) != api.ErrThere {
		t.Error("Spoil of one like a spoilt one")
	}
	holds(t, b, bad(1, "`bcd"), parcel(1, "abcd"), bad(1, "`bcd"))
	if b.Spoil(1, 0, 2) != api.OK {
		t.Error("Spoil of the other one")
	}
	holds(t, b, bad(1, "`bcd"), bad(1, "cbcd"), bad(1, "`bcd"))
	p, _ := b.Take(0)
	if b.Put(p) != api.OK || b.Spoil(2, 0, 1) != api.ErrThere {
		t.Error("a spoilt one, put again")
	}
}

// onceSpoilt tells whether p is the parcel that was put, or that one with changes in four bytes that stand side by side, and is called so.
func onceSpoilt(p, put bag.Parcel) bool {
	if p.From != put.From || p.To != put.To || len(p.B) != len(put.B) {
		return false
	}
	first, last := -1, -1
	for i := range p.B {
		if p.B[i] != put.B[i] {
			if first < 0 {
				first = i
			}
			last = i
		}
	}
	return p.Bad == (first >= 0) && last-first < 4
}

// P804: whatever is called, what is told is what was put, or like it, or such a one spoilt once.
func TestP804NothingOfNothing(t *testing.T) {
	rnd := rand.New(rand.NewSource(804))
	const most = 12
	var put []bag.Parcel
	b := bag.New(most)
	told, spoils := 0, 0
	seen := func(p bag.Parcel, e api.Errno) {
		if e != api.OK {
			return
		}
		told++
		n := int(p.From.Life)
		if n >= len(put) || !onceSpoilt(p, put[n]) {
			t.Fatalf("%v was told", p)
		}
		if p.Bad {
			spoils++
		}
	}
	for len(put) < 20000 {
		i := rnd.Intn(most+2) - 1
		switch rnd.Intn(9) {
		case 0, 1, 2, 3:
			body := make([]byte, rnd.Intn(9))
			rnd.Read(body)
			put = append(put, parcel(len(put), string(body)))
			b.Put(put[len(put)-1])
		case 4:
			seen(b.Look(i))
		case 5:
			seen(b.Take(i))
		case 6:
			b.Twice(i)
		case 7:
			b.Spoil(i, rnd.Intn(8)-1, rnd.Uint32()&rnd.Uint32()&rnd.Uint32())
		case 8:
			if rnd.Intn(10) == 0 {
				for _, p := range b.All() {
					seen(p, api.OK)
				}
			}
		}
		if b.Len() > most {
			t.Fatalf("%d are in", b.Len())
		}
	}
	if told < 1000 || spoils < 100 {
		t.Error(told, spoils)
	}
}

// slow is a bag as the chapter tells it.
type slow struct {
	most int
	l    []bag.Parcel
}

func (s *slow) spoil(i, at int, mask uint32) api.Errno {
	if i < 0 || i >= len(s.l) {
		return api.ErrNone
	}
	p := s.l[i]
	if p.Bad {
		return api.ErrThere
	}
	if mask == 0 {
		return api.ErrArg
	}
	if at < 0 || at+4 > len(p.B) {
		return api.ErrRange
	}
	p.B = slices.Clone(p.B)
	for _, m := range []uint32{mask, mask >> 8, mask >> 16, mask >> 24} {
		p.B[at] ^= byte(m)
		at++
	}
	p.Bad = true
	s.l[i] = p
	return api.OK
}

func (s *slow) take(i int) (bag.Parcel, api.Errno) {
	if i < 0 || i >= len(s.l) {
		return bag.Parcel{}, api.ErrNone
	}
	p := s.l[i]
	s.l = append(slices.Clone(s.l[:i]), s.l[i+1:]...)
	return p, api.OK
}

func (s *slow) put(p bag.Parcel) api.Errno {
	if len(s.l) >= s.most {
		return api.ErrFull
	}
	s.l = append(slices.Clone(s.l), p)
	return api.OK
}

func (s *slow) twice(i int) api.Errno {
	if i < 0 || i >= len(s.l) {
		return api.ErrNone
	}
	return s.put(s.l[i])
}

// P802, P803: any calls, held against a list.
func TestP802AnyCalls(t *testing.T) {
	rnd := rand.New(rand.NewSource(802))
	s := &slow{most: 6}
	b := bag.New(s.most)
	for range 20000 {
		i, at := rnd.Intn(s.most+3)-1, rnd.Intn(8)-1
		mask := rnd.Uint32() & -uint32(rnd.Intn(2))
		switch rnd.Intn(6) {
		case 0, 1:
			p := parcel(rnd.Intn(9), strings.Repeat("q", rnd.Intn(9)))
			if b.Put(p) != s.put(p) {
				t.Fatal("Put")
			}
		case 2:
			p, e := b.Take(i)
			if q, f := s.take(i); e != f || !same(p, q) {
				t.Fatal("Take", p, e, q, f)
			}
		case 3:
			if b.Twice(i) != s.twice(i) {
				t.Fatal("Twice")
			}
		case 4:
			if e, f := b.Spoil(i, at, mask), s.spoil(i, at, mask); e != f {
				t.Fatal("Spoil", e, f)
			}
		case 5:
			if rnd.Intn(20) == 0 {
				if !slices.EqualFunc(b.All(), s.l, same) {
					t.Fatal("All")
				}
				s.l = nil
			}
		}
		holds(t, b, s.l...)
		if t.Failed() {
			return
		}
	}
}
