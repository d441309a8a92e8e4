package octet_test

import (
	"bytes"
	"math"
	"math/rand"
	"strings"
	"testing"

	"gemot/api"
	"gemot/octet"
)

// P101: nil objects, and a Reader that Read did not make.
func TestP101NilAndUnmade(t *testing.T) {
	var w *octet.Writer
	w.U(1)
	w.I(-1)
	w.B(1)
	w.Text("x")
	if len(w.Bytes()) != 0 {
		t.Error("a nil Writer has bytes")
	}
	for name, r := range map[string]*octet.Reader{"nil": nil, "unmade": {}} {
		r.Fail(api.ErrSum)
		if r.U(math.MaxUint64) != 0 || r.I() != 0 || r.B() != 0 || r.Text(9) != "" || r.Left() != 0 {
			t.Errorf("%s: something was read", name)
		}
		if r.Err() != api.ErrArg || r.End() != api.ErrArg {
			t.Errorf("%s: Err %d, End %d", name, r.Err(), r.End())
		}
	}
	for _, b := range [][]byte{nil, {}} {
		if r := octet.Read(b); r.Err() != api.OK || r.End() != api.OK || r.Left() != 0 {
			t.Error("Read of nothing")
		}
	}
}

// P101: what is handed in is not changed and not kept; what is answered is apart.
func TestP101Apart(t *testing.T) {
	room := []byte{1, 2, 3, 4}
	r := octet.Read(room[:2])
	room[0] = 9
	if r.U(9) != 1 || r.B() != 2 || r.End() != api.OK {
		t.Error("the Reader saw a change from outside")
	}
	if !bytes.Equal(room, []byte{9, 2, 3, 4}) {
		t.Errorf("Read changed what was handed in: %v", room)
	}
	w := &octet.Writer{}
	w.Text("abc")
	first, second := w.Bytes(), w.Bytes()
	first[1] = 'z'
	_ = append(first, 'y')
	w.B(7)
	if string(second) != "\x03abc" || string(w.Bytes()) != "\x03abc\x07" || string(first) != "\x03zbc" {
		t.Errorf("shared: %q %q %q", first, second, w.Bytes())
	}
}

// P102: the bytes of each kind.
func TestP102Writing(t *testing.T) {
	cases := []struct {
		name  string
		write func(w *octet.Writer)
		want  string
	}{
		{"nothing", func(w *octet.Writer) {}, ""},
		{"U 0", func(w *octet.Writer) { w.U(0) }, "\x00"},
		{"U 127", func(w *octet.Writer) { w.U(127) }, "\x7f"},
		{"U 128", func(w *octet.Writer) { w.U(128) }, "\x80\x01"},
		{"U 300", func(w *octet.Writer) { w.U(300) }, "\xac\x02"},
		{"U 2^63", func(w *octet.Writer) { w.U(1 << 63) }, "\x80\x80\x80\x80\x80\x80\x80\x80\x80\x01"},
		{"U 2^64-1", func(w *octet.Writer) { w.U(math.MaxUint64) }, "\xff\xff\xff\xff\xff\xff\xff\xff\xff\x01"},
		{"I 0", func(w *octet.Writer) { w.I(0) }, "\x00"},
		{"I -1", func(w *octet.Writer) { w.I(-1) }, "\x01"},
		{"I -3", func(w *octet.Writer) { w.I(-3) }, "\x05"},
		{"I 64", func(w *octet.Writer) { w.I(64) }, "\x80\x01"},
		{"I least", func(w *octet.Writer) { w.I(math.MinInt64) }, "\xff\xff\xff\xff\xff\xff\xff\xff\xff\x01"},
		{"B 0", func(w *octet.Writer) { w.B(0) }, "\x00"},
		{"B 255", func(w *octet.Writer) { w.B(255) }, "\xff"},
		{"Text none", func(w *octet.Writer) { w.Text("") }, "\x00"},
		{"Text", func(w *octet.Writer) { w.Text("h\x00\xff") }, "\x03h\x00\xff"},
		{"Text long", func(w *octet.Writer) { w.Text(strings.Repeat("a", 130)) }, "\x82\x01" + strings.Repeat("a", 130)},
		{"in a row", func(w *octet.Writer) { w.U(1); w.I(1); w.B(1); w.Text("b") }, "\x01\x02\x01\x01b"},
	}
	for _, c := range cases {
		w := &octet.Writer{}
		c.write(w)
		if string(w.Bytes()) != c.want {
			t.Errorf("%s: %q, not %q", c.name, w.Bytes(), c.want)
		}
	}
}

// P103: numbers, and what is wrong with them.
func TestP103Numbers(t *testing.T) {
	const all = math.MaxUint64
	cases := []struct {
		in   string
		most uint64
		want uint64
		err  api.Errno
	}{
		{"\x00", 0, 0, api.OK},
		{"\x7f", 127, 127, api.OK},
		{"\x7f", 126, 0, api.ErrSize},
		{"\x01", 0, 0, api.ErrSize},
		{"\xac\x02", 300, 300, api.OK},
		{"\xac\x02", 299, 0, api.ErrSize},
		{"\xff\xff\xff\xff\xff\xff\xff\xff\xff\x01", all, all, api.OK},
		{"\xff\xff\xff\xff\xff\xff\xff\xff\xff\x01", all - 1, 0, api.ErrSize},
		{"\x80\x80\x80\x80\x80\x80\x80\x80\x80\x01", all, 1 << 63, api.OK},
		{"", all, 0, api.ErrForm},
		{"\x80", all, 0, api.ErrForm},
		{"\xff\xff\xff\xff\xff\xff\xff\xff\xff", all, 0, api.ErrForm},
		{"\x80\x00", all, 0, api.ErrForm},
		{"\xff\x80\x00", all, 0, api.ErrForm},
		{"\xff\xff\xff\xff\xff\xff\xff\xff\xff\x00", all, 0, api.ErrForm},
		{"\xff\xff\xff\xff\xff\xff\xff\xff\xff\x02", all, 0, api.ErrForm},
		{"\xff\xff\xff\xff\xff\xff\xff\xff\xff\x7f", all, 0, api.ErrForm},
		{"\x80\x80\x80\x80\x80\x80\x80\x80\x80\x81\x00", all, 0, api.ErrForm},
		{"\x80\x80\x80\x80\x80\x80\x80\x80\x80\x80\x01", all, 0, api.ErrForm},
		{strings.Repeat("\x80", 40) + "\x01", all, 0, api.ErrForm},
		{"\xff\x00", 1, 0, api.ErrForm}, // needless, and above most: what the chapter names first
		{"\xff", 1, 0, api.ErrForm},
		{"\xff\xff\xff\xff\xff\xff\xff\xff\xff\x02", 1, 0, api.ErrForm},
	}
	for _, c := range cases {
		r := octet.Read([]byte(c.in))
		if got := r.U(c.most); got != c.want || r.Err() != c.err {
			t.Errorf("U(%d) of %q: %d, %d", c.most, c.in, got, r.Err())
		}
	}
	for in, want := range map[string]int64{"\x00": 0, "\x01": -1, "\x02": 1, "\x05": -3, "\xff\xff\xff\xff\xff\xff\xff\xff\xff\x01": math.MinInt64, "\xfe\xff\xff\xff\xff\xff\xff\xff\xff\x01": math.MaxInt64} {
		if r := octet.Read([]byte(in)); r.I() != want || r.End() != api.OK {
			t.Errorf("I of %q is not %d", in, want)
		}
	}
	for _, in := range []string{"", "\x81", "\x81\x00", "\xff\xff\xff\xff\xff\xff\xff\xff\xff\x03"} {
		if r := octet.Read([]byte(in)); r.I() != 0 || r.Err() != api.ErrForm {
			t.Errorf("I of %q: %d", in, r.Err())
		}
	}
}

// P103: bytes and texts, and what is wrong with them.
func TestP103BytesAndTexts(t *testing.T) {
	r := octet.Read([]byte{0, 255})
	if r.B() != 0 || r.B() != 255 || r.End() != api.OK || r.B() != 0 || r.Err() != api.ErrForm {
		t.Error("B")
	}
	cases := []struct {
		in   string
		most int
		want string
		err  api.Errno
	}{
		{"\x00", 0, "", api.OK},
		{"\x00", -1, "", api.OK},
		{"\x00", math.MinInt, "", api.OK},
		{"\x02hi", 2, "hi", api.OK},
		{"\x02hi", math.MaxInt, "hi", api.OK},
		{"\x02h\x80", 3, "h\x80", api.OK},
		{"\x02hi", 1, "", api.ErrSize},
		{"\x01h", 0, "", api.ErrSize},
		{"\x01h", -1, "", api.ErrSize},
		{"\x05hi", 4, "", api.ErrSize},
		{"\x05hi", 5, "", api.ErrForm},
		{"", 5, "", api.ErrForm},
		{"\x82", 5, "", api.ErrForm},
		{"\x82\x00hi", 5, "", api.ErrForm},
		{"\xff\xff\xff\xff\xff\xff\xff\xff\xff\x01", math.MaxInt, "", api.ErrSize},
		{"\xff\xff\xff\xff\xff\xff\xff\xff\x7f", math.MaxInt, "", api.ErrForm},
	}
	for _, c := range cases {
		r := octet.Read([]byte(c.in))
		if got := r.Text(c.most); got != c.want || r.Err() != c.err {
			t.Errorf("Text(%d) of %q: %q, %d", c.most, c.in, got, r.Err())
		}
	}
}

// P103: the first error holds, and nothing is read behind it.
func TestP103BehindAnError(t *testing.T) {
	for _, fail := range []func(r *octet.Reader){
		func(r *octet.Reader) { r.U(4) },
		func(r *octet.Reader) { r.Text(4) },
		func(r *octet.Reader) { r.Fail(api.ErrSize) },
	} {
		r := octet.Read([]byte{5, 1, 1, 1})
		fail(r)
		if r.U(9) != 0 || r.I() != 0 || r.B() != 0 || r.Text(9) != "" || r.Left() != 0 {
			t.Error("something was read behind an error")
		}
		r.Fail(api.ErrSum)
		r.Fail(api.OK)
		if r.Err() != api.ErrSize || r.End() != api.ErrSize {
			t.Errorf("Err %d, End %d", r.Err(), r.End())
		}
	}
}

// P103: Left, End and Fail.
func TestP103LeftEndFail(t *testing.T) {
	r := octet.Read([]byte{0xac, 2, 1, 'x', 7})
	for _, left := range []int{5, 3, 1} {
		if r.Left() != left || r.End() != api.ErrForm || r.Err() != api.OK {
			t.Errorf("Left %d, End %d, Err %d", r.Left(), r.End(), r.Err())
		}
		if left == 5 {
			r.U(300)
		} else if left == 3 {
			r.Text(1)
		}
	}
	r.Fail(api.OK)
	if r.Err() != api.OK || r.B() != 7 || r.End() != api.OK || r.Left() != 0 {
		t.Error("Fail of OK did something")
	}
	r.Fail(api.ErrDead)
	if r.Err() != api.ErrDead || r.End() != api.ErrDead {
		t.Error("Fail at the end")
	}
	r = octet.Read([]byte{1, 2})
	r.Fail(api.Errno(-7))
	if r.Err() != api.Errno(-7) || r.End() != api.Errno(-7) || r.Left() != 0 || r.B() != 0 {
		t.Error("Fail of an error without a name")
	}
}

// edges are numbers at which a group more is begun, or a bound lies.
func edges() []uint64 {
	l := []uint64{0, 1, 2, 300, math.MaxUint64, math.MaxUint64 - 1}
	for i := range 64 {
		l = append(l, 1<<i, 1<<i-1, 1<<i+1)
	}
	return l
}

// P104: what was written is read as it was.
func TestP104ThereAndBack(t *testing.T) {
	texts := []string{"", "a", "\x00\xff\x80", strings.Repeat("long", 50)}
	w := &octet.Writer{}
	for i, v := range edges() {
		w.U(v)
		w.I(int64(v))
		w.B(uint8(v))
		w.Text(texts[i%len(texts)])
	}
	r := octet.Read(w.Bytes())
	for i, v := range edges() {
		if got := r.U(v); got != v {
			t.Errorf("U: %d, not %d", got, v)
		}
		if got := r.I(); got != int64(v) {
			t.Errorf("I: %d, not %d", got, int64(v))
		}
		if got := r.B(); got != uint8(v) {
			t.Errorf("B: %d, not %d", got, uint8(v))
		}
		s := texts[i%len(texts)]
		if got := r.Text(len(s)); got != s {
			t.Errorf("Text: %q, not %q", got, s)
		}
	}
	if r.End() != api.OK {
		t.Error(r.End())
	}
}

// P104: what is read without an error, and written again, are the bytes that were read.
func TestP104ReadAndWrittenAgain(t *testing.T) {
	rnd := rand.New(rand.NewSource(104))
	odd := []byte{0, 1, 2, 0x7f, 0x80, 0x81, 0xff}
	read := 0
	for range 200000 {
		b := make([]byte, rnd.Intn(13))
		for i := range b {
			b[i] = odd[rnd.Intn(len(odd))]
		}
		r, w := octet.Read(b), &octet.Writer{}
		switch rnd.Intn(4) {
		case 0:
			w.U(r.U(math.MaxUint64))
		case 1:
			w.I(r.I())
		case 2:
			w.B(r.B())
		case 3:
			w.Text(r.Text(20))
		}
		if r.Err() != api.OK {
			continue
		}
		read++
		if !bytes.Equal(w.Bytes(), b[:len(b)-r.Left()]) {
			t.Fatalf("%q was read of %q", w.Bytes(), b)
		}
	}
	if read == 0 {
		t.Error("nothing was read")
	}
}

// Zig and Zag (Words).
func TestZigZag(t *testing.T) {
	for i, v := range []int64{0, -1, 1, -2, 2, -3} {
		if octet.Zig(v) != uint64(i) || octet.Zag(uint64(i)) != v {
			t.Errorf("Zig of %d: %d; Zag of %d: %d", v, octet.Zig(v), i, octet.Zag(uint64(i)))
		}
	}
	if octet.Zig(math.MinInt64) != math.MaxUint64 || octet.Zig(math.MaxInt64) != math.MaxUint64-1 {
		t.Error("Zig at the bounds")
	}
	for _, v := range edges() {
		if octet.Zig(octet.Zag(v)) != v || octet.Zag(octet.Zig(int64(v))) != int64(v) {
			t.Errorf("%d does not come back", v)
		}
	}
}

// turnSlowly moves one bit at a time, to hold Turn against.
func turnSlowly(v uint32, n int) uint32 {
	for ; n > 0; n-- {
		v = v<<1 | v>>31
	}
	for ; n < 0; n++ {
		v = v>>1 | v<<31
	}
	return v
}

// P105: Turn.
func TestP105Turn(t *testing.T) {
	for _, v := range []uint32{0, 1, 3, 0x80000001, 0xdeadbeef, math.MaxUint32} {
		for n := -100; n <= 100; n++ {
			if got := octet.Turn(v, n); got != turnSlowly(v, n) {
				t.Errorf("Turn(%x, %d): %x", v, n, got)
			}
		}
		if octet.Turn(v, math.MinInt) != v || octet.Turn(v, math.MaxInt) != turnSlowly(v, 31) || octet.Turn(v, math.MinInt+1) != turnSlowly(v, 1) {
			t.Errorf("Turn of %x by huge numbers", v)
		}
	}
}

// P105: Narrow.
func TestP105Narrow(t *testing.T) {
	cases := []struct {
		v    int64
		n    int
		want int64
		ok   bool
	}{
		{0, 1, 0, true}, {-1, 1, -1, true}, {1, 1, -1, false}, {2, 1, 0, false},
		{127, 8, 127, true}, {128, 8, -128, false}, {200, 8, -56, false}, {-128, 8, -128, true}, {-129, 8, 127, false}, {256, 8, 0, false},
		{math.MaxInt32, 32, math.MaxInt32, true}, {math.MaxInt32 + 1, 32, math.MinInt32, false},
		{math.MaxInt64, 63, -1, false}, {math.MinInt64, 63, 0, false}, {1<<62 - 1, 63, 1<<62 - 1, true},
		{math.MaxInt64, 64, math.MaxInt64, true}, {math.MinInt64, 64, math.MinInt64, true},
		{0, 0, 0, false}, {5, 0, 0, false}, {5, -1, 0, false}, {5, 65, 0, false}, {0, 65, 0, false}, {5, math.MinInt, 0, false}, {5, math.MaxInt, 0, false},
	}
	for _, c := range cases {
		if v, ok := octet.Narrow(c.v, c.n); v != c.want || ok != c.ok {
			t.Errorf("Narrow(%d, %d): %d, %t", c.v, c.n, v, ok)
		}
	}
}

// sumSlowly is the chapter's rule bit by bit, to hold Sum against.
func sumSlowly(b []byte) uint32 {
	s := ^uint32(0)
	for _, c := range b {
		for i := 7; i >= 0; i-- {
			differ := s>>31 != uint32(c>>i&1)
			s <<= 1
			if differ {
				s ^= 0x04c11db7
			}
		}
	}
	return ^s
}

// P106: the sum is the one that Words tell.
func TestP106Sum(t *testing.T) {
	if octet.Sum(nil) != 0 || octet.Sum([]byte{}) != 0 || octet.Sum([]byte("123456789")) != 0xfc891918 {
		t.Error("Sum of known texts")
	}
	rnd := rand.New(rand.NewSource(106))
	for n := range 300 {
		b := make([]byte, n)
		rnd.Read(b)
		was := bytes.Clone(b)
		if octet.Sum(b) != sumSlowly(b) {
			t.Errorf("Sum of %x: %x, not %x", b, octet.Sum(b), sumSlowly(b))
		}
		if !bytes.Equal(b, was) {
			t.Error("Sum changed what was handed in")
		}
	}
	for c := range 256 {
		if b := []byte{byte(c)}; octet.Sum(b) != sumSlowly(b) {
			t.Errorf("Sum of byte %d", c)
		}
	}
}

// P106: whatever is changed of four bytes side by side, the sum is another one.
func TestP106Changed(t *testing.T) {
	rnd := rand.New(rand.NewSource(1061))
	for range 2000 {
		b := make([]byte, 1+rnd.Intn(60))
		rnd.Read(b)
		was := octet.Sum(b)
		for at := range b {
			c := bytes.Clone(b)
			changed := c[at:min(at+4, len(c))]
			for bytes.Equal(b, c) {
				rnd.Read(changed[:1+rnd.Intn(len(changed))])
			}
			if octet.Sum(c) == was {
				t.Fatalf("%x and %x have one sum", b, c)
			}
		}
	}
}
