package entry_test

import (
	"bytes"
	"math"
	"math/rand"
	"slices"
	"strings"
	"testing"

	"gemot/api"
	"gemot/entry"
	"gemot/ident"
	"gemot/octet"
	"gemot/part"
	"gemot/store"
)

// The bytes of the entries of these tests.
const (
	bytesOfParts = "\x02\x00\x03\x01a\x00\x0a\x01\x02\x01b\x00\x0a"
	bytesOfCall  = "\x00\x01\x01\x05\x00\x02" + bytesOfParts
	bytesOfBack  = "\x01\x01\x01\x05\x02\x00\x00\x02\x01\x01\x01x"
	bytesOfKill  = "\x02\x01\x01"
	bytesOfCheck = "\x03\x01\x01\x05\x00\x02" + bytesOfParts + "\x00\x013" + "\x01" + bytesOfWrite
	bytesOfWrite = "\x01a\x013\x01"
)

// written are the bytes of an entry.
func written(e entry.Entry) string {
	w := &octet.Writer{}
	entry.Put(w, e)
	return string(w.Bytes())
}

// writtenAll are the bytes of a list.
func writtenAll(l []entry.Entry) string {
	w := &octet.Writer{}
	entry.PutAll(w, l)
	return string(w.Bytes())
}

// P503: the bytes of each kind, of entries that may not be, too.
func TestP503Put(t *testing.T) {
	all := check()
	all.ID, all.Victim = id(5, 0, 2), client
	as := func(kind uint8) entry.Entry {
		return but(all, func(e *entry.Entry) { e.Kind = kind })
	}
	const asked = "\x01\x01\x05\x02\x00\x00\x02\x01\x02" + bytesOfParts
	cases := []struct {
		e    entry.Entry
		want string
	}{
		{call(), bytesOfCall},
		{back(), bytesOfBack},
		{kill(), bytesOfKill},
		{check(), bytesOfCheck},
		{entry.Entry{}, "\x00\x00\x00\x00\x00\x00\x00"},
		{entry.Entry{Kind: entry.Back}, "\x01\x00\x00\x00\x00\x00\x00"},
		{entry.Entry{Kind: entry.Kill}, "\x02\x00\x00"},
		{entry.Entry{Kind: entry.Check}, "\x03\x00\x00\x00\x00\x00\x00\x00\x00\x00"},
		{entry.Entry{Kind: entry.Kill, Victim: ident.Proc{Node: 255, Life: 300}}, "\x02\xff\xac\x02"},
		{entry.Entry{ID: ident.ID{Seq: 1, Depth: 9}, Floor: math.MaxUint32}, "\x00\x00\x00\x01\x09\xff\xff\xff\xff\x0f\x00"},
		{but(check(), func(e *entry.Entry) { e.Writes = []store.Write{{Key: "a"}, {Value: "v", Has: true}} }), bytesOfCheck[:len(bytesOfCheck)-6] + "\x02\x01a\x00\x00\x00\x01v\x01"},
		{as(entry.Call), "\x00" + asked},
		{as(entry.Back), "\x01\x01\x01\x05\x02\x00\x00\x02\x01\x00\x013"},
		{as(entry.Kill), bytesOfKill},
		{as(entry.Check), "\x03" + asked + "\x00\x013\x01" + bytesOfWrite},
		{as(4), "\x04"},
		{as(255), "\xff"},
	}
	for _, c := range cases {
		if got := written(c.e); got != c.want {
			t.Errorf("Put(%#v): %q, not %q", c.e, got, c.want)
		}
	}
}

// P503: of writes, and parts, no more are put than a byte counts.
func TestP503PutMany(t *testing.T) {
	head := bytesOfCheck[:len(bytesOfCheck)-1-len(bytesOfWrite)]
	for _, n := range []int{0, 1, 2, 254, 255, 256, 600} {
		e := but(check(), func(e *entry.Entry) { e.Writes = slices.Repeat(e.Writes, n) })
		m := min(n, 255)
		if got := written(e); got != head+string([]byte{byte(m)})+strings.Repeat(bytesOfWrite, m) {
			t.Errorf("%d writes: %q", n, got)
		}
		r := octet.Read([]byte(written(e)))
		if got := entry.Get(r); len(got.Writes) != m || r.End() != api.OK {
			t.Errorf("%d writes: %d came back, %d", n, len(got.Writes), r.End())
		}
	}
	e := entry.Entry{Parts: slices.Repeat(parts(0, 1), 300)}
	if got := written(e); got != "\x00\x00\x00\x00\x00\x00\xff"+strings.Repeat("\x00\x03\x01a\x00\x0a", 255) {
		t.Errorf("300 parts: %q", got)
	}
}

// P503: the bytes of lists, of more than are read, too.
func TestP503PutAll(t *testing.T) {
	cases := []struct {
		l    []entry.Entry
		want string
	}{
		{nil, "\x00"},
		{[]entry.Entry{}, "\x00"},
		{[]entry.Entry{kill()}, "\x01" + bytesOfKill},
		{[]entry.Entry{call(), back(), kill(), check()}, "\x04" + bytesOfCall + bytesOfBack + bytesOfKill + bytesOfCheck},
		{slices.Repeat([]entry.Entry{kill()}, 300), "\xac\x02" + strings.Repeat(bytesOfKill, 300)},
		{slices.Repeat([]entry.Entry{kill()}, api.MaxLog+1), "\x91\x03" + strings.Repeat(bytesOfKill, api.MaxLog+1)},
		{[]entry.Entry{{Kind: 7}, kill()}, "\x02\x07" + bytesOfKill},
	}
	for _, c := range cases {
		if got := writtenAll(c.l); got != c.want {
			t.Errorf("PutAll of %d entries: %q, not %q", len(c.l), got, c.want)
		}
	}
}

// P503: reading entries, of those that may not be, too.
func TestP503Get(t *testing.T) {
	k255 := strings.Repeat("k", 255)
	cases := []struct {
		in   string
		want entry.Entry
		left int
	}{
		{bytesOfCall, call(), 0},
		{bytesOfBack + "\x09", back(), 1},
		{bytesOfKill + "\x09\x08", kill(), 2},
		{bytesOfCheck, check(), 0},
		{"\x00\x00\x00\x00\x00\x00\x00", entry.Entry{}, 0},
		{"\x01\x00\x00\x00\x00\x00\x00\x00", entry.Entry{Kind: entry.Back}, 1},
		{"\x02\xff\xac\x02", entry.Entry{Kind: entry.Kill, Victim: ident.Proc{Node: 255, Life: 300}}, 0},
		{"\x00\x00\x00\x01\x09\xff\xff\xff\xff\x0f\x00", entry.Entry{ID: ident.ID{Seq: 1, Depth: 9}, Floor: math.MaxUint32}, 0},
		{"\x03\x00\x00\x00\x00\x00\x00\xff\x00\x01\xff\x01" + k255 + "\xff\x01" + k255 + "\x00", entry.Entry{Kind: entry.Check, Res: part.Res{Code: 255}, Writes: []store.Write{{Key: k255, Value: k255}}}, 0},
		{"\x03\x00\x00\x00\x00\x00\x00\x00\x00\x02\x00\x00\x01\x01a\x01b\x00", entry.Entry{Kind: entry.Check, Writes: []store.Write{{Has: true}, {Key: "a", Value: "b"}}}, 0},
	}
	for _, c := range cases {
		r := octet.Read([]byte(c.in))
		if got := entry.Get(r); !entry.Same(got, c.want) || r.Err() != api.OK || r.Left() != c.left {
			t.Errorf("Get of %q: %#v, %d, %d left", c.in, got, r.Err(), r.Left())
		}
	}
}

// P503: what is wrong with the bytes: the zero entry, and none of a list.
func TestP503Refused(t *testing.T) {
	head := bytesOfCheck[:len(bytesOfCheck)-1-len(bytesOfWrite)]
	k256 := "\x80\x02" + strings.Repeat("k", 256)
	cases := []struct {
		in  string
		err api.Errno
	}{
		{"", api.ErrForm},
		{"\x04", api.ErrForm},
		{"\xff\x00\x00\x00\x00\x00\x00\x00\x00\x00\x00\x00", api.ErrForm},
		{"\x00\x01\x01\x05\x00\x80\x80\x80\x80\x10" + bytesOfParts, api.ErrSize},
		{"\x00\x01\x01\x05\x00\x80\x00" + bytesOfParts, api.ErrForm},
		{"\x00\x01\x80\x80\x04\x05\x00\x00\x00", api.ErrSize},
		{"\x00\x01\x01\x80\x80\x80\x80\x10\x00\x00\x00", api.ErrSize},
		{"\x00\x01\x01\x05\x00\x02\x01\x00\x03" + k256 + "\x00\x0a", api.ErrSize},
		{"\x01\x01\x01\x05\x01\x00\x00\x00\xe9\x07" + strings.Repeat("x", 1001), api.ErrSize},
		{"\x02\x01\x80\x80\x04", api.ErrSize},
		{head + "\x01\x01a\x013\x02", api.ErrForm},
		{head + "\x01\x01a\x013\xff", api.ErrForm},
		{head + "\x02\x01a\x013\x03" + bytesOfWrite, api.ErrForm},
		{head + "\x02" + bytesOfWrite, api.ErrForm},
		{head + "\xff" + strings.Repeat(bytesOfWrite, 254), api.ErrForm},
		{head + "\x01" + k256 + "\x013\x01", api.ErrSize},
		{head + "\x01\x01a" + k256 + "\x01", api.ErrSize},
		{head + "\x01\x01a" + k256 + "\x02", api.ErrSize},
	}
	for _, whole := range []string{bytesOfCall, bytesOfBack, bytesOfKill, bytesOfCheck} {
		for i := range whole {
			cases = append(cases, struct {
				in  string
				err api.Errno
			}{whole[:i], api.ErrForm})
		}
	}
	for _, c := range cases {
		r := octet.Read([]byte(c.in))
		if got := entry.Get(r); !entry.Same(got, entry.Entry{}) || r.Err() != c.err || r.Left() != 0 {
			t.Errorf("Get of %q: %#v, %d", c.in, got, r.Err())
		}
		r = octet.Read([]byte("\x02" + bytesOfKill + c.in))
		if got := entry.GetAll(r); len(got) != 0 || r.Err() != c.err || r.Left() != 0 {
			t.Errorf("GetAll of %q: %#v, %d", c.in, got, r.Err())
		}
	}
}

// P503: reading lists: at most MaxLog.
func TestP503GetAll(t *testing.T) {
	mixed := []entry.Entry{call(), back(), kill(), check()}
	for _, l := range [][]entry.Entry{nil, mixed[:1], mixed, slices.Repeat(mixed, api.MaxLog/4)} {
		r := octet.Read([]byte(writtenAll(l) + "\x09\x08"))
		if got := entry.GetAll(r); !entry.SameAll(got, l) || r.Err() != api.OK || r.Left() != 2 {
			t.Errorf("%d of %d came back: %d, %d left", len(got), len(l), r.Err(), r.Left())
		}
	}
	cases := []struct {
		in  string
		err api.Errno
	}{
		{writtenAll(slices.Repeat(mixed, api.MaxLog/4+1)), api.ErrSize},
		{"\x91\x03" + strings.Repeat(bytesOfKill, api.MaxLog+1), api.ErrSize},
		{"\xff\xff\xff\xff\xff\xff\xff\xff\xff\x01", api.ErrSize},
		{"\xff\xff\xff\xff\xff\xff\xff\xff\xff\x02", api.ErrForm},
		{"", api.ErrForm},
		{"\x90\x03" + strings.Repeat(bytesOfKill, api.MaxLog-1), api.ErrForm},
		{"\x02" + bytesOfKill, api.ErrForm},
		{"\x81\x00" + bytesOfKill, api.ErrForm},
	}
	for _, c := range cases {
		r := octet.Read([]byte(c.in))
		if got := entry.GetAll(r); len(got) != 0 || r.Err() != c.err || r.Left() != 0 {
			t.Errorf("%q: %d entries, %d", c.in, len(got), r.Err())
		}
	}
}

// P501, P503: nil objects, a Reader that Read did not make, and one that met an error ahead.
func TestP503NothingToReadOrWrite(t *testing.T) {
	for kind := range uint8(5) {
		entry.Put(nil, but(check(), func(e *entry.Entry) { e.Kind = kind }))
	}
	entry.PutAll(nil, []entry.Entry{call(), back(), kill(), check()})
	failed := octet.Read([]byte(bytesOfCall + bytesOfCall))
	failed.Fail(api.ErrSum)
	for name, r := range map[string]*octet.Reader{"nil": nil, "unmade": {}, "failed": failed} {
		if !entry.Same(entry.Get(r), entry.Entry{}) || len(entry.GetAll(r)) != 0 {
			t.Errorf("%s: something was read", name)
		}
	}
	if failed.Err() != api.ErrSum {
		t.Error("the first error is gone")
	}
}

// P504: right entries that are put are got, one by one and in lists.
func TestP504ThereAndBack(t *testing.T) {
	l := rightOnes()
	w := &octet.Writer{}
	var all []entry.Entry
	for _, x := range l {
		entry.Put(w, x.e)
		all = append(all, x.e)
	}
	all = all[:min(len(all), api.MaxLog)]
	entry.PutAll(w, all)
	r := octet.Read(w.Bytes())
	for _, x := range l {
		if got := entry.Get(r); !entry.Same(got, x.e) || !got.Right(x.group) {
			t.Fatalf("%#v was got of %#v", got, x.e)
		}
	}
	if got := entry.GetAll(r); !entry.SameAll(got, all) || r.End() != api.OK {
		t.Error("the list", r.End())
	}
}

// P504: what is read without an error, and put again, are the bytes that were read.
func TestP504ReadAndPutAgain(t *testing.T) {
	rnd := rand.New(rand.NewSource(504))
	odd := []byte{0, 0, 0, 0, 1, 1, 1, 2, 3, 4, 0x80, 0xff}
	wholes := []string{bytesOfCall, bytesOfBack, bytesOfKill, bytesOfCheck, "\x04" + bytesOfKill + bytesOfBack + bytesOfCall + bytesOfCheck}
	read := 0
	for range 200000 {
		b := make([]byte, rnd.Intn(16))
		for i := range b {
			b[i] = odd[rnd.Intn(len(odd))]
		}
		if rnd.Intn(2) == 0 { // whole ones of which a byte or two are others
			b = []byte(wholes[rnd.Intn(len(wholes))])
			for range 1 + rnd.Intn(2) {
				b[rnd.Intn(len(b))] = odd[rnd.Intn(len(odd))]
			}
		}
		r, w := octet.Read(b), &octet.Writer{}
		if rnd.Intn(2) == 0 {
			entry.Put(w, entry.Get(r))
		} else {
			entry.PutAll(w, entry.GetAll(r))
		}
		if r.Err() != api.OK {
			continue
		}
		read++
		if !bytes.Equal(w.Bytes(), b[:len(b)-r.Left()]) {
			t.Fatalf("%q was put of %q", w.Bytes(), b)
		}
	}
	if read < 1000 {
		t.Errorf("only %d were read", read)
	}
}

// P501: what is told is apart from the bytes, from another answer, and from itself.
func TestP501Apart(t *testing.T) {
	in := []byte("\x02" + bytesOfCheck + bytesOfCheck)
	r, again := octet.Read(in), octet.Read(in)
	l, m := entry.GetAll(r), entry.GetAll(again)
	clear(in)
	l[0].Parts[0], l[0].Writes[0] = part.Part{}, store.Write{}
	_, _ = append(l[0].Parts[:1], part.Part{}), append(l[0].Writes[:0], store.Write{})
	_, _ = append(l[0].Parts, part.Part{Key: "x"}), append(l[0].Writes, store.Write{Key: "x"})
	_ = append(l[:1], entry.Entry{Floor: 9})
	if !entry.SameAll(m, []entry.Entry{check(), check()}) {
		t.Errorf("two lists share: %#v", m)
	}
	w := &octet.Writer{}
	entry.PutAll(w, m)
	m[0].Parts[0].Key, m[1].Writes[0].Key = "z", "z"
	if string(w.Bytes()) != "\x02"+bytesOfCheck+bytesOfCheck {
		t.Errorf("what was put was kept: %q", w.Bytes())
	}
}
