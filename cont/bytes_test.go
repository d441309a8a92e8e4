package cont_test

import (
	"bytes"
	"math"
	"math/rand"
	"strings"
	"testing"

	"gemot/api"
	"gemot/cont"
	"gemot/ident"
	"gemot/octet"
	"gemot/part"
	"gemot/store"
)

// written are the bytes of a table.
func written(x *cont.Table) []byte {
	w := &octet.Writer{}
	x.Put(w)
	return w.Bytes()
}

// put are the bytes of what waits, one behind the other, whether a table takes it in or not.
func put(l ...cont.Cont) []byte {
	w := &octet.Writer{}
	w.U(uint64(len(l)))
	for _, c := range l {
		ident.PutID(w, c.ID)
		part.Put(w, c.First)
		part.PutAll(w, c.Rest)
		part.PutRes(w, c.Res)
		w.Text(c.Old.Key)
		w.Text(c.Old.Value)
		w.B(map[bool]uint8{true: 1}[c.Old.Has])
		w.U(uint64(c.Floor))
	}
	return w.Bytes()
}

// many is a table that is full.
func many(t *testing.T) *cont.Table {
	t.Helper()
	x := cont.New(group)
	for seq := range uint32(4 * api.MaxWindow) {
		if _, e := x.Add(waits(id(one, seq+1))); e != api.OK {
			t.Fatal(e)
		}
	}
	return x
}

// example are the bytes of the chapter's example, behind how many there are.
const example = "\x01\x01\x05\x00" + "\x02\x03\x01a\x00\x0a" + "\x01\x01\x02\x01b\x00\x0a" + "\x00\x013" + "\x01a\x018\x01" + "\x02"

// P1503: the bytes of tables.
func TestP1503Put(t *testing.T) {
	gone := waits(id(two, 300, ident.Step{Group: 1, Index: 200}))
	gone.First = part.Part{Group: 3, Kind: part.Write, Key: "k", Value: "vv"}
	gone.Rest = rest(2)
	gone.Res, gone.Old, gone.Floor = part.Res{Code: part.Full}, store.Write{Key: "k"}, 299
	other := "\x02\x01\xac\x02\x01\x01\xc8" + "\x03\x01\x01k\x02vv\x00" + "\x02\x00\x02\x01b\x00\x00\x01\x02\x01b\x00\x02" + "\x05\x00" + "\x01k\x00\x00" + "\xab\x02"
	cases := []struct {
		x    *cont.Table
		want string
	}{
		{cont.New(group), "\x00"},
		{of(t, group, waits(id(one, 5))), "\x01" + example},
		{of(t, 0, waits(id(one, 5))), "\x01" + example},
		{of(t, group, gone), "\x01" + other},
		{of(t, group, gone, waits(id(one, 5))), "\x02" + example + other},
	}
	for _, c := range cases {
		if got := string(written(c.x)); got != c.want {
			t.Errorf("%v: %q, not %q", c.x.All(), got, c.want)
		}
	}
	if got := written(of(t, group, risingOnes()...)); !bytes.Equal(got, put(risingOnes()...)) {
		t.Errorf("many: %q", got)
	}
	w := &octet.Writer{}
	w.B(7)
	of(t, group, waits(id(one, 5))).Put(w)
	w.B(7)
	if string(w.Bytes()) != "\x07\x01"+example+"\x07" {
		t.Errorf("among others: %q", w.Bytes())
	}
}

// P1501: nothing is put of what is no table, or into what is no Writer.
func TestP1501PutOfNothing(t *testing.T) {
	w := &octet.Writer{}
	for _, x := range []*cont.Table{nil, {}} {
		x.Put(w)
		x.Put(nil)
	}
	of(t, group, waits(id(one, 5))).Put(nil)
	if len(w.Bytes()) != 0 {
		t.Errorf("%q", w.Bytes())
	}
}

// P1504: a table that is put is loaded as it was, and what stands behind it is left.
func TestP1504ThereAndBack(t *testing.T) {
	long := strings.Repeat("l", 255)
	wide := waits(id(one, api.MaxSeq))
	wide.First = part.Part{Group: 3, Kind: part.Write, Key: strings.Repeat("k", api.MaxKey), Value: strings.Repeat("v", api.MaxValue)}
	wide.Rest = rest(3)
	wide.Rest[1] = part.Part{Kind: part.Take, Key: "\x00\xff", N: math.MaxInt64}
	wide.Res = part.Res{Code: 255, Value: strings.Repeat("r", 1000)}
	wide.Old = store.Write{Key: long, Value: long, Has: true}
	wide.Floor = math.MaxUint32
	bare := waits(id(ident.Proc{Node: api.MaxNodes - 1, Life: math.MaxUint16}, 1))
	bare.Res, bare.Old, bare.Floor = part.Res{}, store.Write{}, 0
	odd := waits(id(one, 1))
	odd.Old = store.Write{Key: "a", Value: "x"}
	for g := range uint8(api.MaxGroups) {
		for i, x := range []*cont.Table{cont.New(g), of(t, g, waits(id(one, 5))), of(t, g, wide, bare, odd), of(t, g, bare)} {
			r := octet.Read(append(written(x), 7, 8))
			got := cont.Load(g, r)
			if !x.Same(got) || !got.Same(x) || !sameAll(got.All(), x.All()) || r.Left() != 2 || r.B() != 7 {
				t.Errorf("group %d, table %d: %v", g, i, got.All())
			}
			if child, e := got.Add(waits(id(two, 3))); e != api.OK || child != below(t, id(two, 3), g) || got.Len() != x.Len()+1 {
				t.Errorf("group %d, table %d: what is loaded is not whole", g, i)
			}
		}
	}
	for _, x := range []*cont.Table{of(t, group, risingOnes()...), many(t)} {
		r := octet.Read(written(x))
		if got := cont.Load(group, r); !x.Same(got) || r.End() != api.OK {
			t.Errorf("%d of %d came back", got.Len(), x.Len())
		}
	}
}

// P1503: what no table takes in, or what was not put by one.
func TestP1503Refused(t *testing.T) {
	with := func(change func(c *cont.Cont)) []byte {
		c := waits(id(one, 5))
		change(&c)
		return put(waits(id(one, 4)), c, waits(id(one, 6)))
	}
	long := strings.Repeat("l", 256)
	whole := put(waits(id(one, 5)))
	flag := len(whole) - 2
	cases := map[string][]byte{
		"a number's beginning":                {0x80},
		"a needless group":                    {0x80, 0},
		"one too few":                         append([]byte{2}, whole[1:]...),
		"far too many":                        append([]byte{0xff, 0xff, 0xff, 0xff, 0xff, 0xff, 0xff, 0xff, 0xff, 1}, whole[1:]...),
		"a byte 2":                            append(append(bytes.Clone(whole[:flag]), 2), whole[flag+1:]...),
		"a byte 255":                          append(append(bytes.Clone(whole[:flag]), 255), whole[flag+1:]...),
		"a floor too great":                   append(bytes.Clone(whole[:flag+1]), 0x80, 0x80, 0x80, 0x80, 0x10),
		"a floor's beginning":                 append(bytes.Clone(whole[:flag+1]), 0x80),
		"no call":                             with(func(c *cont.Cont) { c.ID.Seq = 0 }),
		"too deep":                            with(func(c *cont.Cont) { c.ID.Depth = api.MaxDepth + 1 }),
		"at MaxDepth":                         with(func(c *cont.Cont) { c.ID = id(one, 5, ident.Step{}, ident.Step{}, ident.Step{}) }),
		"a wrong first part":                  with(func(c *cont.Cont) { c.First.Key = "" }),
		"no rest":                             with(func(c *cont.Cont) { c.Rest = nil }),
		"a wrong rest":                        with(func(c *cont.Cont) { c.Rest[0].Group = api.MaxGroups }),
		"too many parts":                      with(func(c *cont.Cont) { c.Rest = rest(api.MaxParts) }),
		"a long result":                       with(func(c *cont.Cont) { c.Res.Value = strings.Repeat("r", 1001) }),
		"a long key":                          with(func(c *cont.Cont) { c.Old.Key = long }),
		"a long value":                        with(func(c *cont.Cont) { c.Old.Value = long }),
		"one twice":                           with(func(c *cont.Cont) { c.ID.Seq = 4 }),
		"the last one twice":                  with(func(c *cont.Cont) { c.ID.Seq = 6 }),
		"they fall":                           put(waits(id(one, 6)), waits(id(one, 5))),
		"they fall later":                     put(waits(id(one, 4)), waits(id(one, 6)), waits(id(one, 5))),
		"the calls rise, the children do not": put(waits(id(one, 5)), waits(id(one, 5, ident.Step{Group: 1}))),
		"one too many":                        put(append(many(t).All(), waits(id(two, 1)))...),
	}
	for n := range len(whole) {
		cases["the first bytes "+string(rune('0'+n))] = whole[:n]
	}
	for name, b := range cases {
		r := octet.Read(b)
		if x := cont.Load(group, r); x != nil {
			t.Errorf("%s: %v", name, x.All())
		}
		if r.Err() == api.OK || r.Left() != 0 {
			t.Errorf("%s: the Reader goes on", name)
		}
	}
}

// P1501, P1503: Load of a group that is none, of what is no Reader, and behind an error.
func TestP1503LoadOfNothing(t *testing.T) {
	for _, g := range []uint8{api.MaxGroups, 255} {
		for _, b := range [][]byte{nil, {0}, put(waits(id(one, 5)))} {
			if cont.Load(g, octet.Read(b)) != nil || cont.Load(g, nil) != nil {
				t.Errorf("group %d: a table", g)
			}
		}
	}
	if cont.Load(group, nil) != nil || cont.Load(group, &octet.Reader{}) != nil {
		t.Error("what is no Reader")
	}
	r := octet.Read([]byte{0})
	r.Fail(api.ErrSum)
	if cont.Load(group, r) != nil || r.Err() != api.ErrSum {
		t.Error("behind an error")
	}
}

// P1503: the order that is asked for is that of the children, which hangs on the group.
func TestP1503RisesByChildren(t *testing.T) {
	a, b := waits(id(one, 5, ident.Step{Group: 1})), waits(id(one, 5))
	for g, want := range []bool{false, false, true, true} { // the children: 1.0 g.0, and g.0
		if got := cont.Load(uint8(g), octet.Read(put(a, b))); (got != nil) != want {
			t.Errorf("group %d: %v", g, got.All())
		}
		if got := cont.Load(uint8(g), octet.Read(put(b, a))); (got != nil) == want {
			t.Errorf("group %d, turned round: %v", g, got.All())
		}
	}
}

// P1503, P1504: of bytes that are spoilt what is loaded, and put again, are the bytes that were read.
func TestP1503AnyBytes(t *testing.T) {
	rnd := rand.New(rand.NewSource(1503))
	whole := put(risingOnes()[:3]...)
	loaded := 0
	for range 100000 {
		b := bytes.Clone(whole)
		for range 1 + rnd.Intn(3) {
			switch i := rnd.Intn(len(b)); rnd.Intn(4) {
			case 0:
				b[i] = byte(rnd.Intn(256))
			case 1:
				b[i] = byte(rnd.Intn(5))
			case 2:
				b = append(b[:i], b[i+1:]...)
			default:
				b = append(b[:i:i], append([]byte{byte(rnd.Intn(4))}, b[i:]...)...)
			}
		}
		r := octet.Read(b)
		x := cont.Load(group, r)
		if (x == nil) != (r.Err() != api.OK) {
			t.Fatalf("%q: %v beside %d", b, x.All(), r.Err())
		}
		if x == nil {
			continue
		}
		loaded++
		if !bytes.Equal(written(x), b[:len(b)-r.Left()]) {
			t.Fatalf("%q was loaded of %q", written(x), b)
		}
	}
	if loaded == 0 {
		t.Error("nothing was loaded")
	}
}
