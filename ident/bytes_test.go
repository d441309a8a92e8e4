package ident_test

import (
	"bytes"
	"math"
	"math/rand"
	"testing"

	"gemot/api"
	"gemot/ident"
	"gemot/octet"
)

// P203: the bytes of processes and identifiers.
func TestP203Putting(t *testing.T) {
	procs := []struct {
		p    ident.Proc
		want string
	}{
		{ident.Proc{}, "\x00\x00"},
		{ident.Proc{Node: 1, Life: 1}, "\x01\x01"},
		{ident.Proc{Node: 15, Life: 300}, "\x0f\xac\x02"},
		{ident.Proc{Node: 255, Life: math.MaxUint16}, "\xff\xff\xff\x03"},
	}
	for _, c := range procs {
		w := &octet.Writer{}
		ident.PutProc(w, c.p)
		if string(w.Bytes()) != c.want {
			t.Errorf("PutProc(%v): %q, not %q", c.p, w.Bytes(), c.want)
		}
	}
	ids := []struct {
		d    ident.ID
		want string
	}{
		{ident.ID{}, "\x00\x00\x00\x00"},
		{id(one, 5), "\x01\x01\x05\x00"},
		{id(one, 5, ident.Step{Group: 2, Index: 1}), "\x01\x01\x05\x01\x02\x01"},
		{id(one, api.MaxSeq, ident.Step{}, ident.Step{Group: 3, Index: 255}, ident.Step{Group: 1}), "\x01\x01\x80\x80\x40\x03\x00\x00\x03\xff\x01\x00"},
		{id(ident.Proc{Node: 255}, math.MaxUint32, ident.Step{Group: 200, Index: 128}), "\xff\x00\xff\xff\xff\xff\x0f\x01\xc8\x80"},
		{ident.ID{Client: one, Seq: 5, Depth: 1, Path: [3]ident.Step{{Group: 2}, {Group: 1}, {Index: 1}}}, "\x01\x01\x05\x01\x02\x00"}, // what is behind the steps does not count
		{ident.ID{Client: one, Seq: 5, Depth: 4, Path: [3]ident.Step{{Group: 2}}}, "\x01\x01\x05\x04"},
		{ident.ID{Client: one, Seq: 5, Depth: 255}, "\x01\x01\x05\xff"},
	}
	for _, c := range ids {
		w := &octet.Writer{}
		ident.PutID(w, c.d)
		if string(w.Bytes()) != c.want {
			t.Errorf("PutID(%v): %q, not %q", c.d, w.Bytes(), c.want)
		}
	}
	ident.PutProc(nil, one)
	ident.PutID(nil, id(one, 5))
}

// P203: reading, and what is wrong with the bytes.
func TestP203GettingProcs(t *testing.T) {
	cases := []struct {
		in   string
		want ident.Proc
		err  api.Errno
		left int
	}{
		{"\x01\x01", ident.Proc{Node: 1, Life: 1}, api.OK, 0},
		{"\x01\x01\x01", ident.Proc{Node: 1, Life: 1}, api.OK, 1},
		{"\x00\x00", ident.Proc{}, api.OK, 0},
		{"\xff\xff\xff\x03", ident.Proc{Node: 255, Life: math.MaxUint16}, api.OK, 0},
		{"\x01\x80\x80\x04", ident.Proc{}, api.ErrSize, 0},
		{"\x01\x81\x80\x04\x05", ident.Proc{}, api.ErrSize, 0},
		{"", ident.Proc{}, api.ErrForm, 0},
		{"\x01", ident.Proc{}, api.ErrForm, 0},
		{"\x01\x81", ident.Proc{}, api.ErrForm, 0},
		{"\x01\x81\x00", ident.Proc{}, api.ErrForm, 0},
	}
	for _, c := range cases {
		r := octet.Read([]byte(c.in))
		if got := ident.GetProc(r); got != c.want || r.Err() != c.err || r.Left() != c.left {
			t.Errorf("GetProc of %q: %v, %d, %d left", c.in, got, r.Err(), r.Left())
		}
	}
	r := octet.Read([]byte{1, 1})
	r.Fail(api.ErrSum)
	if ident.GetProc(r) != (ident.Proc{}) || r.Err() != api.ErrSum || ident.GetProc(nil) != (ident.Proc{}) {
		t.Error("GetProc behind an error, or of nil")
	}
}

// P203: reading, and what is wrong with the bytes.
func TestP203GettingIDs(t *testing.T) {
	cases := []struct {
		in   string
		want ident.ID
		err  api.Errno
		left int
	}{
		{"\x01\x01\x05\x00", id(one, 5), api.OK, 0},
		{"\x01\x01\x05\x00\x09", id(one, 5), api.OK, 1},
		{"\x01\x01\x05\x01\x02\x01", id(one, 5, ident.Step{Group: 2, Index: 1}), api.OK, 0},
		{"\x01\x01\x05\x03\x02\x01\x00\x00\xff\xfe", id(one, 5, ident.Step{Group: 2, Index: 1}, ident.Step{}, ident.Step{Group: 255, Index: 254}), api.OK, 0},
		{"\x01\x01\x05\x04\x02\x01\x00\x00\xff\xfe\x01\x01", ident.ID{Client: one, Seq: 5, Depth: 4}, api.OK, 8},
		{"\x01\x01\x05\xff", ident.ID{Client: one, Seq: 5, Depth: 255}, api.OK, 0},
		{"\xff\x00\xff\xff\xff\xff\x0f\x00", id(ident.Proc{Node: 255}, math.MaxUint32), api.OK, 0},
		{"\x01\x01\x80\x80\x80\x80\x10\x00", ident.ID{}, api.ErrSize, 0},
		{"\x01\x80\x80\x04\x05\x00", ident.ID{}, api.ErrSize, 0},
		{"", ident.ID{}, api.ErrForm, 0},
		{"\x01\x01", ident.ID{}, api.ErrForm, 0},
		{"\x01\x01\x05", ident.ID{}, api.ErrForm, 0},
		{"\x01\x01\x85\x00\x00", ident.ID{}, api.ErrForm, 0},
		{"\x01\x01\x05\x01", ident.ID{}, api.ErrForm, 0},
		{"\x01\x01\x05\x01\x02", ident.ID{}, api.ErrForm, 0},
		{"\x01\x01\x05\x03\x02\x01\x00\x00\xff", ident.ID{}, api.ErrForm, 0},
	}
	for _, c := range cases {
		r := octet.Read([]byte(c.in))
		if got := ident.GetID(r); got != c.want || r.Err() != c.err || r.Left() != c.left {
			t.Errorf("GetID of %q: %v, %d, %d left", c.in, got, r.Err(), r.Left())
		}
	}
	r := octet.Read([]byte{1, 1, 5, 0})
	r.Fail(api.ErrSum)
	if ident.GetID(r) != (ident.ID{}) || r.Err() != api.ErrSum || ident.GetID(nil) != (ident.ID{}) {
		t.Error("GetID behind an error, or of nil")
	}
}

// P205: what is put is got, one behind the other.
func TestP205PutAndGot(t *testing.T) {
	w := &octet.Writer{}
	l := append(rightOnes(), id(ident.Proc{}, 0), id(ident.Proc{Node: 255, Life: math.MaxUint16}, math.MaxUint32, ident.Step{Group: 255, Index: 255}), ident.ID{Client: one, Seq: 1, Depth: 200})
	for _, d := range l {
		ident.PutID(w, d)
		ident.PutProc(w, d.Client)
	}
	r := octet.Read(w.Bytes())
	for _, d := range l {
		if got, p := ident.GetID(r), ident.GetProc(r); got != d || p != d.Client {
			t.Fatalf("%v, %v was got of %v", got, p, d)
		}
	}
	if r.End() != api.OK {
		t.Error(r.End())
	}
}

// P205: what is read, and put again, are the bytes that were read.
func TestP205ReadAndPutAgain(t *testing.T) {
	rnd := rand.New(rand.NewSource(205))
	odd := []byte{0, 1, 2, 3, 4, 0x80, 0xff}
	read := 0
	for range 100000 {
		b := make([]byte, rnd.Intn(13))
		for i := range b {
			b[i] = odd[rnd.Intn(len(odd))]
		}
		r, w := octet.Read(b), &octet.Writer{}
		d := ident.GetID(r)
		if r.Err() != api.OK {
			if d != (ident.ID{}) {
				t.Fatalf("%v beside error %d", d, r.Err())
			}
			continue
		}
		read++
		ident.PutID(w, d)
		if !bytes.Equal(w.Bytes(), b[:len(b)-r.Left()]) {
			t.Fatalf("%v was read of %q, and put as %q", d, b, w.Bytes())
		}
	}
	if read == 0 {
		t.Error("nothing was read")
	}
}
