package view_test

import (
	"bytes"
	"math"
	"math/rand"
	"strings"
	"testing"

	"gemot/api"
	"gemot/ident"
	"gemot/octet"
	"gemot/view"
)

// written are the bytes of a view.
func written(v view.View) string {
	w := &octet.Writer{}
	view.Put(w, v)
	return string(w.Bytes())
}

// P604: the bytes of views, right or not.
func TestP604Put(t *testing.T) {
	cases := []struct {
		v    view.View
		want string
	}{
		{view.View{Group: 1, N: 1, Members: first(0, 2)}, "\x01\x01\x02\x00\x01\x02\x01"},
		{view.View{}, "\x00\x00\x00"},
		{view.View{Members: []ident.Proc{}}, "\x00\x00\x00"},
		{view.View{Group: 3, N: 300, Members: []ident.Proc{proc(15, 300)}}, "\x03\xac\x02\x01\x0f\xac\x02"},
		{view.View{Group: 255, N: math.MaxUint32, Members: []ident.Proc{proc(255, math.MaxUint16), {}}}, "\xff\xff\xff\xff\xff\x0f\x02\xff\xff\xff\x03\x00\x00"},
		{of(first(5, 5)...), "\x02\x05\x02\x05\x01\x05\x01"},
		{of(make([]ident.Proc, 255)...), "\x02\x05\xff" + strings.Repeat("\x00\x00", 255)},
		{of(make([]ident.Proc, 256)...), "\x02\x05\xff" + strings.Repeat("\x00\x00", 255)},
		{of(append(make([]ident.Proc, 255), first(1, 2)...)...), "\x02\x05\xff" + strings.Repeat("\x00\x00", 255)},
		{of(make([]ident.Proc, 100000)...), "\x02\x05\xff" + strings.Repeat("\x00\x00", 255)},
	}
	for _, c := range cases {
		if got := written(c.v); got != c.want {
			t.Errorf("Put(%v): %q, not %q", c.v, got, c.want)
		}
	}
}

// P604: views are read, and what stands behind them is left.
func TestP604Get(t *testing.T) {
	cases := []struct {
		in   string
		want view.View
		left int
	}{
		{"\x01\x01\x02\x00\x01\x02\x01", view.View{Group: 1, N: 1, Members: first(0, 2)}, 0},
		{"\x01\x01\x02\x00\x01\x02\x01\x00\xff", view.View{Group: 1, N: 1, Members: first(0, 2)}, 2},
		{"\x00\x00\x00", view.View{}, 0},
		{"\x04\x00\x00\x00", view.View{Group: 4}, 1},
		{"\xff\xff\xff\xff\xff\x0f\x02\xff\xff\xff\x03\x00\x00", view.View{Group: 255, N: math.MaxUint32, Members: []ident.Proc{proc(255, math.MaxUint16), {}}}, 0},
		{"\x02\x05\x02\x05\x01\x05\x01", of(first(5, 5)...), 0},
		{"\x02\x05\xff" + strings.Repeat("\x00\x01", 255), of(first(make([]uint8, 255)...)...), 0},
	}
	for _, c := range cases {
		r := octet.Read([]byte(c.in))
		if got := view.Get(r); !view.Same(got, c.want) || r.Err() != api.OK || r.Left() != c.left {
			t.Errorf("Get of %q: %v, %d, %d left", c.in, got, r.Err(), r.Left())
		}
	}
}

// P604: bytes that are no view: the zero one, and the error is told.
func TestP604Refused(t *testing.T) {
	cases := []struct {
		in   string
		want api.Errno
	}{
		{"\x01\x80\x80\x80\x80\x10\x00", api.ErrSize}, // N 2^32
		{"\x01\xff\xff\xff\xff\xff\xff\xff\xff\xff\x01\x00", api.ErrSize},
		{"\x01\xff\xff\xff\xff\xff\xff\xff\xff\xff\x02\x00", api.ErrForm},
		{"\x01\x81\x00\x00", api.ErrForm}, // a needless last group
		{"\x01\x01\x02\x00\x01\x02\x80\x80\x04", api.ErrSize},
		{"\x01\x01\x02\x00\x80\x80\x04\x02\x01", api.ErrSize},
		{"\x01\x01\x02\x00\x01\x02\x81\x00", api.ErrForm},
		{"\x01\x01\xff\x00\x01", api.ErrForm},
	}
	for _, c := range cases {
		r := octet.Read([]byte(c.in))
		if got := view.Get(r); !view.Same(got, view.View{}) || r.Err() != c.want || r.Left() != 0 {
			t.Errorf("Get of %q: %v, %d, %d left", c.in, got, r.Err(), r.Left())
		}
	}
	whole := written(view.View{Group: 3, N: 300, Members: []ident.Proc{proc(15, 300), proc(2, 1)}})
	for n := range len(whole) {
		r := octet.Read([]byte(whole[:n]))
		if got := view.Get(r); !view.Same(got, view.View{}) || r.Err() != api.ErrForm {
			t.Errorf("Get of %q: %v, %d", whole[:n], got, r.Err())
		}
	}
}

// P601, P604: nothing to write to, or to read from.
func TestP601NothingToReadOrWrite(t *testing.T) {
	view.Put(nil, of(first(0, 1)...))
	failed := octet.Read([]byte("\x01\x01\x02\x00\x01\x02\x01"))
	failed.Fail(api.ErrSum)
	for _, r := range []*octet.Reader{nil, {}, failed} {
		e := r.Err()
		if got := view.Get(r); !view.Same(got, view.View{}) || r.Err() != e || e == api.OK {
			t.Errorf("%v, %d", got, r.Err())
		}
	}
	if failed.Err() != api.ErrSum {
		t.Error(failed.Err())
	}
}

// P605: what is put is got, one behind the other, right or not.
func TestP605ThereAndBack(t *testing.T) {
	var l []view.View
	for _, v := range append(rightOnes(), wrongOnes()...) {
		if len(v.Members) <= math.MaxUint8 {
			l = append(l, v)
		}
	}
	w := &octet.Writer{}
	for _, v := range l {
		view.Put(w, v)
	}
	r := octet.Read(w.Bytes())
	for _, v := range l {
		if got := view.Get(r); !view.Same(got, v) {
			t.Fatalf("%v was got of %v", got, v)
		}
	}
	if r.End() != api.OK {
		t.Error(r.End())
	}
}

// P605: what is read, and put again, are the bytes that were read.
func TestP605ReadAndPutAgain(t *testing.T) {
	rnd := rand.New(rand.NewSource(605))
	odd := []byte{0, 1, 2, 3, 5, 0x80, 0xff}
	read, members := 0, 0
	for range 100000 {
		b := make([]byte, rnd.Intn(16))
		for i := range b {
			b[i] = odd[rnd.Intn(len(odd))]
		}
		r := octet.Read(b)
		v := view.Get(r)
		if r.Err() != api.OK {
			if !view.Same(v, view.View{}) {
				t.Fatalf("%v beside error %d", v, r.Err())
			}
			continue
		}
		read++
		members += len(v.Members)
		if got := written(v); !bytes.Equal([]byte(got), b[:len(b)-r.Left()]) {
			t.Fatalf("%v was read of %q, and put as %q", v, b, got)
		}
	}
	if read == 0 || members == 0 {
		t.Error("nothing was read")
	}
}

// P601: what is put is not changed, nor the room behind it, and two views that are got share nothing.
func TestP601BytesApart(t *testing.T) {
	l := room(first(0, 1)...)
	v := view.View{Group: 2, N: 5, Members: l}
	b := []byte(written(v))
	if !bytes.Equal([]byte(written(view.View{Group: 2, N: 5, Members: room(first(0, 1)...)})), b) || l[:cap(l)][2] != proc(99, 99) || l[0] != proc(0, 1) {
		t.Error(l[:cap(l)])
	}
	spoil(l)
	r := octet.Read(append(b, b...))
	one, two := view.Get(r), view.Get(r)
	spoil(one.Members)
	if !view.Same(two, of(first(0, 1)...)) {
		t.Error(two)
	}
}
