package part_test

import (
	"bytes"
	"math"
	"math/rand"
	"slices"
	"strings"
	"testing"

	"gemot/api"
	"gemot/octet"
	"gemot/part"
)

// written are the bytes that put writes.
func written(put func(w *octet.Writer)) string {
	w := &octet.Writer{}
	put(w)
	return string(w.Bytes())
}

// P303: the bytes of parts.
func TestP303Put(t *testing.T) {
	cases := []struct {
		p    part.Part
		want string
	}{
		{part.Part{Group: 1, Kind: part.Take, Key: "a", N: 5}, "\x01\x03\x01a\x00\x0a"},
		{part.Part{Group: 3, Kind: part.Write, Key: "key", Value: "\x00\xff"}, "\x03\x01\x03key\x02\x00\xff\x00"},
		{part.Part{}, "\x00\x00\x00\x00\x00"},
		{part.Part{Kind: part.Add, Key: "a", N: math.MaxInt64}, "\x00\x02\x01a\x00\xfe\xff\xff\xff\xff\xff\xff\xff\xff\x01"},
		{part.Part{Group: 255, Kind: 200, Value: "v", N: -3}, "\xff\xc8\x00\x01v\x05"},
		{part.Part{Key: strings.Repeat("k", 300), Value: strings.Repeat("v", 128)}, "\x00\x00\xac\x02" + strings.Repeat("k", 300) + "\x80\x01" + strings.Repeat("v", 128) + "\x00"},
	}
	for _, c := range cases {
		if got := written(func(w *octet.Writer) { part.Put(w, c.p) }); got != c.want {
			t.Errorf("Put(%#v): %q, not %q", c.p, got, c.want)
		}
	}
}

// P303: the bytes of lists, of more than a byte counts, too.
func TestP303PutAll(t *testing.T) {
	a := part.Part{Group: 1, Kind: part.Take, Key: "a", N: 5}
	b := part.Part{Kind: part.Erase, Key: "b"}
	const bytesOfA, bytesOfB = "\x01\x03\x01a\x00\x0a", "\x00\x04\x01b\x00\x00"
	cases := []struct {
		l    []part.Part
		want string
	}{
		{nil, "\x00"},
		{[]part.Part{}, "\x00"},
		{[]part.Part{a}, "\x01" + bytesOfA},
		{[]part.Part{a, b}, "\x02" + bytesOfA + bytesOfB},
		{[]part.Part{b, a, b}, "\x03" + bytesOfB + bytesOfA + bytesOfB},
		{slices.Repeat([]part.Part{a}, 254), "\xfe" + strings.Repeat(bytesOfA, 254)},
		{slices.Repeat([]part.Part{a}, 255), "\xff" + strings.Repeat(bytesOfA, 255)},
		{append(slices.Repeat([]part.Part{a}, 255), b), "\xff" + strings.Repeat(bytesOfA, 255)},
		{slices.Repeat([]part.Part{b}, 600), "\xff" + strings.Repeat(bytesOfB, 255)},
	}
	for _, c := range cases {
		if got := written(func(w *octet.Writer) { part.PutAll(w, c.l) }); got != c.want {
			t.Errorf("PutAll of %d parts: %q, not %q", len(c.l), got, c.want)
		}
	}
}

// P303: the bytes of results.
func TestP303PutRes(t *testing.T) {
	cases := []struct {
		x    part.Res
		want string
	}{
		{part.Res{}, "\x00\x00"},
		{part.Res{Code: part.Undone, Value: "x"}, "\x04\x01x"},
		{part.Res{Code: 255, Value: strings.Repeat("\x80", 1001)}, "\xff\xe9\x07" + strings.Repeat("\x80", 1001)},
	}
	for _, c := range cases {
		if got := written(func(w *octet.Writer) { part.PutRes(w, c.x) }); got != c.want {
			t.Errorf("PutRes(%#v): %q, not %q", c.x, got, c.want)
		}
	}
}

// P303: reading parts, and what is wrong with the bytes: what is behind an error is zero.
func TestP303Get(t *testing.T) {
	k255, k256 := strings.Repeat("k", 255), strings.Repeat("k", 256)
	cases := []struct {
		in   string
		want part.Part
		err  api.Errno
		left int
	}{
		{"\x01\x03\x01a\x00\x0a", part.Part{Group: 1, Kind: part.Take, Key: "a", N: 5}, api.OK, 0},
		{"\x01\x03\x01a\x00\x0a\x07\x08", part.Part{Group: 1, Kind: part.Take, Key: "a", N: 5}, api.OK, 2},
		{"\x00\x00\x00\x00\x00", part.Part{}, api.OK, 0},
		{"\xff\xc8\x02\xff\x00\x01v\x05", part.Part{Group: 255, Kind: 200, Key: "\xff\x00", Value: "v", N: -3}, api.OK, 0},
		{"\x00\x00\xff\x01" + k255 + "\xff\x01" + k255 + "\x00", part.Part{Key: k255, Value: k255}, api.OK, 0},
		{"\x00\x01\x00\x00\xff\xff\xff\xff\xff\xff\xff\xff\xff\x01", part.Part{Kind: 1, N: math.MinInt64}, api.OK, 0},
		{"", part.Part{}, api.ErrForm, 0},
		{"\x01", part.Part{Group: 1}, api.ErrForm, 0},
		{"\x01\x03", part.Part{Group: 1, Kind: 3}, api.ErrForm, 0},
		{"\x01\x03\x02a", part.Part{Group: 1, Kind: 3}, api.ErrForm, 0},
		{"\x01\x03\x01a", part.Part{Group: 1, Kind: 3, Key: "a"}, api.ErrForm, 0},
		{"\x01\x03\x01a\x81", part.Part{Group: 1, Kind: 3, Key: "a"}, api.ErrForm, 0},
		{"\x01\x03\x01a\x81\x00v\x0a", part.Part{Group: 1, Kind: 3, Key: "a"}, api.ErrForm, 0},
		{"\x01\x03\x01a\x01v", part.Part{Group: 1, Kind: 3, Key: "a", Value: "v"}, api.ErrForm, 0},
		{"\x01\x03\x01a\x01v\x80\x00", part.Part{Group: 1, Kind: 3, Key: "a", Value: "v"}, api.ErrForm, 0},
		{"\x01\x03\x80\x02" + k256 + "\x00\x00", part.Part{Group: 1, Kind: 3}, api.ErrSize, 0},
		{"\x01\x03\x01a\x80\x02" + k256 + "\x00", part.Part{Group: 1, Kind: 3, Key: "a"}, api.ErrSize, 0},
	}
	for _, c := range cases {
		r := octet.Read([]byte(c.in))
		if got := part.Get(r); got != c.want || r.Err() != c.err || r.Left() != c.left {
			t.Errorf("Get of %q: %#v, %d, %d left", c.in, got, r.Err(), r.Left())
		}
	}
}

// P303: reading lists; behind an error there is no part more.
func TestP303GetAll(t *testing.T) {
	const bytesOfA, bytesOfB = "\x01\x03\x01a\x00\x0a", "\x00\x04\x01b\x00\x00"
	a := part.Part{Group: 1, Kind: part.Take, Key: "a", N: 5}
	b := part.Part{Kind: part.Erase, Key: "b"}
	cases := []struct {
		in   string
		want []part.Part
		err  api.Errno
		left int
	}{
		{"\x00", nil, api.OK, 0},
		{"\x00" + bytesOfA, nil, api.OK, 6},
		{"\x01" + bytesOfA, []part.Part{a}, api.OK, 0},
		{"\x02" + bytesOfB + bytesOfA + "\x09", []part.Part{b, a}, api.OK, 1},
		{"\x05" + strings.Repeat(bytesOfA, 5), slices.Repeat([]part.Part{a}, 5), api.OK, 0}, // more than a right list has: as many as are told
		{"\xff" + strings.Repeat(bytesOfB, 256), slices.Repeat([]part.Part{b}, 255), api.OK, 6},
		{"", nil, api.ErrForm, 0},
		{"\x01", nil, api.ErrForm, 0},
		{"\xff", nil, api.ErrForm, 0},
		{"\x02" + bytesOfA, []part.Part{a}, api.ErrForm, 0},
		{"\xff" + bytesOfA + bytesOfB, []part.Part{a, b}, api.ErrForm, 0},
		{"\x03" + bytesOfA + "\x00\x04\x01b\x00", []part.Part{a}, api.ErrForm, 0},
		{"\x03" + bytesOfA + "\x00\x04\x80\x02" + strings.Repeat("b", 256) + "\x00\x00" + bytesOfB, []part.Part{a}, api.ErrSize, 0},
	}
	for _, c := range cases {
		r := octet.Read([]byte(c.in))
		if got := part.GetAll(r); !slices.Equal(got, c.want) || r.Err() != c.err || r.Left() != c.left {
			t.Errorf("GetAll of %q: %#v, %d, %d left", c.in, got, r.Err(), r.Left())
		}
	}
}

// P303: reading results.
func TestP303GetRes(t *testing.T) {
	v := strings.Repeat("v", 1000)
	cases := []struct {
		in   string
		want part.Res
		err  api.Errno
		left int
	}{
		{"\x00\x00", part.Res{}, api.OK, 0},
		{"\x04\x01x\x07", part.Res{Code: part.Undone, Value: "x"}, api.OK, 1},
		{"\xff\x02\x80\x00", part.Res{Code: 255, Value: "\x80\x00"}, api.OK, 0},
		{"\x01\xe8\x07" + v, part.Res{Code: part.Poor, Value: v}, api.OK, 0},
		{"\x01\xe9\x07" + v + "v", part.Res{Code: part.Poor}, api.ErrSize, 0},
		{"", part.Res{}, api.ErrForm, 0},
		{"\x02", part.Res{Code: part.Odd}, api.ErrForm, 0},
		{"\x02\x81\x00x", part.Res{Code: part.Odd}, api.ErrForm, 0},
		{"\x02\x02x", part.Res{Code: part.Odd}, api.ErrForm, 0},
	}
	for _, c := range cases {
		r := octet.Read([]byte(c.in))
		if got := part.GetRes(r); got != c.want || r.Err() != c.err || r.Left() != c.left {
			t.Errorf("GetRes of %q: %#v, %d, %d left", c.in, got, r.Err(), r.Left())
		}
	}
}

// P301, P303: nil objects, a Reader that Read did not make, and one that met an error ahead.
func TestP303NothingToReadOrWrite(t *testing.T) {
	part.Put(nil, part.Part{Key: "a"})
	part.PutAll(nil, slices.Repeat([]part.Part{{Key: "a"}}, 300))
	part.PutRes(nil, part.Res{Value: "x"})
	failed := octet.Read([]byte("\x01\x03\x01a\x00\x0a\x01\x03\x01a\x00\x0a"))
	failed.Fail(api.ErrSum)
	for name, r := range map[string]*octet.Reader{"nil": nil, "unmade": {}, "failed": failed} {
		if part.Get(r) != (part.Part{}) || len(part.GetAll(r)) != 0 || part.GetRes(r) != (part.Res{}) {
			t.Errorf("%s: something was read", name)
		}
	}
	if failed.Err() != api.ErrSum {
		t.Error("the first error is gone")
	}
}

// P305: right parts, lists and results that are put are got.
func TestP305ThereAndBack(t *testing.T) {
	l := rightOnes()
	w := &octet.Writer{}
	for i, p := range l {
		part.Put(w, p)
		part.PutAll(w, l[i:min(len(l), i+1+i%api.MaxParts)])
		part.PutRes(w, part.Res{Code: uint8(i % 6), Value: strings.Repeat(p.Key, i%(1000/api.MaxKey))})
	}
	part.PutRes(w, part.Res{Code: part.Full, Value: strings.Repeat("x", 1000)})
	r := octet.Read(w.Bytes())
	for i, p := range l {
		if got := part.Get(r); got != p {
			t.Fatalf("%#v was got of %#v", got, p)
		}
		if got, want := part.GetAll(r), l[i:min(len(l), i+1+i%api.MaxParts)]; !part.Same(got, want) || !part.Right(got) {
			t.Fatalf("%#v was got of %#v", got, want)
		}
		if got, want := part.GetRes(r), (part.Res{Code: uint8(i % 6), Value: strings.Repeat(p.Key, i%(1000/api.MaxKey))}); got != want || !got.Right() {
			t.Fatalf("%#v was got of %#v", got, want)
		}
	}
	if got := part.GetRes(r); got != (part.Res{Code: part.Full, Value: strings.Repeat("x", 1000)}) || r.End() != api.OK {
		t.Error("the last result", r.End())
	}
}

// P305: what is read without an error, and put again, are the bytes that were read.
func TestP305ReadAndPutAgain(t *testing.T) {
	rnd := rand.New(rand.NewSource(305))
	odd := []byte{0, 0, 0, 1, 1, 2, 3, 4, 0x80, 0xff}
	read := 0
	for range 200000 {
		b := make([]byte, rnd.Intn(16))
		for i := range b {
			b[i] = odd[rnd.Intn(len(odd))]
		}
		r, w := octet.Read(b), &octet.Writer{}
		switch rnd.Intn(3) {
		case 0:
			part.Put(w, part.Get(r))
		case 1:
			part.PutAll(w, part.GetAll(r))
		case 2:
			part.PutRes(w, part.GetRes(r))
		}
		if r.Err() != api.OK {
			continue
		}
		read++
		if !bytes.Equal(w.Bytes(), b[:len(b)-r.Left()]) {
			t.Fatalf("%q was put of %q", w.Bytes(), b)
		}
	}
	if read == 0 {
		t.Error("nothing was read")
	}
}

// P301: lists that are told are apart, and are not seen by who told them.
func TestP301Apart(t *testing.T) {
	in := []byte("\x03\x01\x03\x01a\x00\x0a\x00\x04\x01b\x00\x00\x01\x03\x01a\x00\x0a")
	r, again := octet.Read(in), octet.Read(in)
	l, m := part.GetAll(r), part.GetAll(again)
	clear(in)
	l[0] = part.Part{}
	_ = append(l[:1], part.Part{Key: "x"})
	if m[0] != (part.Part{Group: 1, Kind: part.Take, Key: "a", N: 5}) || m[1] != (part.Part{Kind: part.Erase, Key: "b"}) || len(m) != 3 {
		t.Errorf("two lists share: %#v", m)
	}
	if l[2] != m[0] {
		t.Errorf("the bytes that were handed in are kept: %#v", l)
	}
	w := &octet.Writer{}
	part.PutAll(w, m)
	m[0].Key = "z"
	if string(w.Bytes()) != "\x03\x01\x03\x01a\x00\x0a\x00\x04\x01b\x00\x00\x01\x03\x01a\x00\x0a" {
		t.Errorf("what was put was kept: %q", w.Bytes())
	}
}
