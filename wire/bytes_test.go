package wire_test

import (
	"bytes"
	"math"
	"math/rand"
	"slices"
	"strings"
	"testing"

	"gemot/api"
	"gemot/entry"
	"gemot/ident"
	"gemot/part"
	"gemot/view"
	"gemot/wire"
)

// The bytes of these tests' messages, and of what is in them.
const (
	bytesOfID      = "\x09\x01\x05\x00"
	bytesOfParts   = "\x02\x01\x03\x01a\x00\x0a\x02\x02\x01b\x00\x0a"
	bytesOfMembers = "\x02\x00\x01\x02\x01"
	bytesOfView    = "\x01\xac\x02" + bytesOfMembers
	bytesOfKill    = "\x02\x09\x01"
	bytesOfPlace   = "\x01\x02" // group 1, view 2
	bytesOfBallot  = bytesOfPlace + "\xac\x02"
	bytesOfEmpty   = "\x08" + bytesOfBallot + "\x02" + bytesOfKill + bytesOfKill
	bytesOfValue   = bytesOfMembers + "\x01" + bytesOfKill
)

func bytesOfMessages() []string {
	return []string{
		"\x00\x01" + bytesOfID + "\x02" + bytesOfParts,
		"\x01" + bytesOfID + "\x00\x013" + bytesOfView,
		"\x02" + bytesOfID + "\x0e",
		"\x03" + bytesOfPlace + "\x03\xac\x02\x01" + bytesOfKill,
		"\x04" + bytesOfPlace + "\xac\x02",
		"\x05" + bytesOfBallot,
		"\x06" + bytesOfBallot,
		"\x07" + bytesOfBallot,
		bytesOfEmpty + "\x00",
		bytesOfEmpty + "\x01\x81\x02" + bytesOfValue,
		"\x09" + bytesOfBallot + bytesOfValue,
		"\x0a" + bytesOfView + "\x01" + bytesOfKill,
		"\x0b\x01\x05\x02",
		"\x0c\x01\x05\x02",
		"\x0d\x01\x05\x02",
	}
}

// P703: the bytes of each kind, and the message of these bytes.
func TestP703EachKind(t *testing.T) {
	for i, m := range messages() {
		want := bytesOfMessages()[i]
		if got, e := wire.Bytes(m); e != api.OK || string(got) != want {
			t.Errorf("Bytes of %+v: %q, %d, not %q", m, got, e, want)
		}
		if got, e := wire.Read([]byte(want)); e != api.OK || !wire.Same(got, m) {
			t.Errorf("Read of %q: %+v, %d", want, got, e)
		}
	}
	if got, e := wire.Bytes(wire.Msg{Kind: wire.Accept, Group: 1, N: 2, Ballot: 300}); e != api.OK || string(got) != "\x06\x01\x02\xac\x02" {
		t.Errorf("the chapter's example: %q, %d", got, e)
	}
}

// P703: bytes that are too few, or too many, are no message.
func TestP703CutAndLonger(t *testing.T) {
	for _, whole := range bytesOfMessages() {
		for n := range len(whole) {
			refused(t, whole[:n], api.ErrForm)
		}
		for _, more := range []string{"\x00", "\x01", "\xff", whole} {
			refused(t, whole+more, api.ErrForm)
		}
	}
	if m, e := wire.Read(nil); e != api.ErrForm || !wire.Same(m, wire.Msg{}) {
		t.Errorf("nothing: %+v, %d", m, e)
	}
}

// refused tells of bytes that are said to be no message.
func refused(t *testing.T, in string, want api.Errno) {
	t.Helper()
	if m, e := wire.Read([]byte(in)); e != want || !wire.Same(m, wire.Msg{}) {
		t.Errorf("Read of %.80q: %+v, %d, not %d", in, m, e, want)
	}
}

// P703: bytes that are no message, with the error that comes first.
func TestP703Refused(t *testing.T) {
	const great = "\x80\x80\x80\x80\x10" // 2^32
	cases := []struct {
		in   string
		want api.Errno
	}{
		{"\x0e", api.ErrForm}, // kinds that there are not
		{"\x0e\x01\x05\x02", api.ErrForm},
		{"\xff", api.ErrForm},
		{"\x0e" + great, api.ErrForm},
		{bytesOfEmpty + "\x02", api.ErrForm}, // Has
		{bytesOfEmpty + "\x02\x81\x02" + bytesOfValue, api.ErrForm},
		{bytesOfEmpty + "\xff", api.ErrForm},
		{bytesOfEmpty + "\x00\x81\x02" + bytesOfValue, api.ErrForm},
		{bytesOfEmpty + "\x01", api.ErrForm},
		{"\x05\x01" + great + "\x01", api.ErrSize}, // numbers that no field holds
		{"\x04\x01\x02" + great, api.ErrSize},
		{"\x03\x01\x02" + great + "\x00\x00", api.ErrSize},
		{"\x03\x01\x02\x00" + great + "\x00", api.ErrSize},
		{"\x00\x01" + bytesOfID + great + bytesOfParts, api.ErrSize},
		{"\x05\x01\x02\xff\xff\xff\xff\xff\xff\xff\xff\xff\x02", api.ErrForm}, // a ballot of more than 64 bits
		{"\x05\x01\x02\x81\x00", api.ErrForm},                                 // a needless last group
		{"\x0b\x01\x05\x80\x80\x04", api.ErrSize},                             // a life of more than 16 bits
		{"\x03\x01\x02\x00\x00\x91\x03", api.ErrSize},                         // a list of 401
		{"\x0a" + bytesOfView + "\x91\x03", api.ErrSize},
		{"\x09" + bytesOfBallot + bytesOfMembers + "\x91\x03", api.ErrSize},
		{"\x03\x01\x02\x00\x00\x01\x04", api.ErrForm},                           // an entry of no kind
		{"\x00\x04" + bytesOfID + "\x02\x01\x04\x00\x01a\x00\x00", api.ErrForm}, // what is read, but not right
		{"\x00\x00" + bytesOfID + "\x02" + bytesOfParts, api.ErrForm},
		{"\x00\x01" + bytesOfID + "\x05" + bytesOfParts, api.ErrForm},
		{"\x00\x01" + bytesOfID + "\x02\x00", api.ErrForm},
		{"\x00\x01\x09\x01\x05\x03\x00\x00\x00\x00\x00\x00\x02" + bytesOfParts, api.ErrForm},
		{"\x00\x01\x09\x01\x05\x04\x02" + bytesOfParts, api.ErrForm},
		{"\x01" + bytesOfID + "\x06\x00" + bytesOfView, api.ErrForm},
		{"\x01" + bytesOfID + "\x00\x00\x01\x00" + bytesOfMembers, api.ErrForm},
		{"\x02\x09\x01\x00\x00\x0e", api.ErrForm},
		{"\x03\x01\x02\x90\x03\x00\x01" + bytesOfKill, api.ErrForm}, // From 400 and one entry
		{"\x03\x01\x02\x00\x91\x03\x00", api.ErrForm},
		{"\x04\x01\x02\x91\x03", api.ErrForm},
		{"\x04\x01\x02\xff\xff\xff\xff\x0f", api.ErrForm},
		{"\x04\x04\x02\x00", api.ErrForm},
		{"\x04\x01\x00\x00", api.ErrForm},
		{"\x05\x01\x02\x00", api.ErrForm},
		{bytesOfEmpty + "\x01\x00" + bytesOfValue, api.ErrForm},
		{"\x09" + bytesOfBallot + "\x00\x00", api.ErrForm},
		{"\x09" + bytesOfBallot + "\x02\x00\x01\x00\x02\x00", api.ErrForm},
		{"\x09" + bytesOfBallot + "\xff" + strings.Repeat("\x00\x01", 255) + "\x00", api.ErrForm},
		{"\x0a\x01\x00" + bytesOfMembers + "\x00", api.ErrForm},
		{"\x0a" + bytesOfView + "\x01\x01\x09\x01\x05\x01\x02\x00\x00\x00", api.ErrForm}, // a Back of group 2 in group 1
		{"\x0d\x01\x10\x02", api.ErrForm},
		{"\x0d\x01\x05\x00", api.ErrForm},
		{"\x0d\x04\x05\x02", api.ErrForm},
		{"\x04\x00\x00" + great, api.ErrSize},             // an error of reading is ahead of what is not right
		{"\x04\x00\x00" + great + "\x00", api.ErrSize},    // and of bytes that are left
		{"\x0b\x04\x10\x80\x80\x04\x00", api.ErrSize},     // likewise
		{"\x05\x01" + great + "\x81\x00", api.ErrSize},    // the first one of two
		{"\x04\x01\x82\x00" + great, api.ErrForm},         // likewise
		{bytesOfEmpty + "\x02" + great, api.ErrForm},      // likewise
		{"\x03\x00\x00\x91\x03\x00\x91\x03", api.ErrSize}, // likewise: the list's length, ahead of From
	}
	for _, c := range cases {
		refused(t, c.in, c.want)
	}
}

// long is a right message of n bytes.
func long(t *testing.T, n int) wire.Msg {
	t.Helper()
	e := entry.Entry{Kind: entry.Check, ID: id(), Parts: make([]part.Part, api.MaxParts), Res: part.Res{Code: part.Odd, Value: strings.Repeat("v", 1000)}}
	for i := range e.Parts {
		e.Parts[i] = parts(1, 3)[2]
	}
	e.Parts[0].Group = 1
	m := but(install(), func(m *wire.Msg) { m.Entries = slices.Repeat([]entry.Entry{e}, 387) })
	m.Entries = append(m.Entries, e, e)
	for i := range 2 {
		last := &m.Entries[387+i]
		b, err := wire.Bytes(m)
		if err != api.OK {
			t.Fatal(err)
		}
		cut := min(max(len(b)-n, 0), 800)
		last.Res.Value = last.Res.Value[cut:]
	}
	if b, err := wire.Bytes(m); err != api.OK || len(b) != n {
		t.Fatalf("%d bytes, %d, not %d", len(b), err, n)
	}
	return m
}

// P703: no more bytes than MaxFrame are read, whatever they are.
func TestP703Long(t *testing.T) {
	for _, n := range []int{api.MaxFrame - 1, api.MaxFrame, api.MaxFrame + 1} {
		m := long(t, n)
		b, _ := wire.Bytes(m)
		if n > api.MaxFrame {
			refused(t, string(b), api.ErrSize)
			continue
		}
		if got, e := wire.Read(b); e != api.OK || !wire.Same(got, m) {
			t.Errorf("%d bytes: %d", n, e)
		}
	}
	refused(t, strings.Repeat("\xff", api.MaxFrame), api.ErrForm)
	refused(t, strings.Repeat("\xff", api.MaxFrame+1), api.ErrSize)
	refused(t, bytesOfMessages()[0]+strings.Repeat("\x00", api.MaxFrame), api.ErrSize)
}

// someEntries are any of a group's, and none as well.
func someEntries(rnd *rand.Rand, group uint8) []entry.Entry {
	l := entries(group)
	rnd.Shuffle(len(l), func(i, j int) { l[i], l[j] = l[j], l[i] })
	return l[:rnd.Intn(len(l)+1)]
}

// someProcs are any of nodes of their own.
func someProcs(rnd *rand.Rand) []ident.Proc {
	l := nodes(api.MaxNodes)
	rnd.Shuffle(len(l), func(i, j int) { l[i], l[j] = l[j], l[i] })
	l[0].Life = uint16(1 + rnd.Intn(math.MaxUint16))
	return l[:1+rnd.Intn(api.MaxView)]
}

// drawn is any right message: one of these tests', each of whose fields that is not zero is another one.
func drawn(rnd *rand.Rand) wire.Msg {
	m := messages()[rnd.Intn(len(messages()))]
	group := uint8(rnd.Intn(api.MaxGroups))
	if m.Group > 0 {
		m.Group = group
	}
	if m.N > 0 {
		m.N = uint32(1 + rnd.Intn(math.MaxUint32))
	}
	if m.From > 0 {
		m.From, m.Commit = uint32(rnd.Intn(api.MaxLog-3)), m.Commit/3*uint32(rnd.Intn(5))
	}
	if m.Ballot > 0 {
		m.Ballot = 1 + rnd.Uint64()>>(1+rnd.Intn(63))
	}
	if m.Has {
		m.Acc = 1 + rnd.Uint64()>>(1+rnd.Intn(63))
	}
	if len(m.Parts) > 0 {
		depth := rnd.Intn(api.MaxDepth + 1)
		m.ID, m.Parts, m.Floor = id([]uint8{3, 0, 2}[:depth]...), parts(group, 1+rnd.Intn(api.MaxParts-depth)), uint32(rnd.Intn(5))
	}
	if m.Res.Value != "" {
		m.Res.Code, m.Res.Value = uint8(rnd.Intn(part.Full+1)), strings.Repeat("v", rnd.Intn(1001))
	}
	if m.View.N > 0 {
		m.View = view.View{Group: group, N: uint32(1 + rnd.Intn(1000)), Members: someProcs(rnd)}
	}
	if m.Proc.Life > 0 {
		m.Proc = someProcs(rnd)[0]
	}
	if len(m.Members) > 0 {
		m.Members, m.Tail = someProcs(rnd), someEntries(rnd, group)
	}
	if len(m.Entries) > 0 {
		m.Entries = someEntries(rnd, group)
	}
	return m
}

// P705: any right message is read as it was.
func TestP705ThereAndBack(t *testing.T) {
	rnd := rand.New(rand.NewSource(705))
	for range 20000 {
		m := drawn(rnd)
		right(t, wire.Word(m.Kind), m)
	}
}

// P705: what is read of any bytes, and told again, are the bytes that were read.
func TestP705ReadAndToldAgain(t *testing.T) {
	rnd := rand.New(rand.NewSource(7050))
	odd := []byte{0, 1, 2, 3, 4, 5, 8, 9, 0x0a, 0x7f, 0x80, 0xff}
	read := map[uint8]int{}
	for range 300000 {
		var b []byte
		if rnd.Intn(3) > 0 {
			b = []byte(bytesOfMessages()[rnd.Intn(15)])
		} else {
			b = make([]byte, 1+rnd.Intn(14))
			b[0] = byte(rnd.Intn(15))
		}
		for range 1 + rnd.Intn(3) {
			b[rnd.Intn(len(b))] = odd[rnd.Intn(len(odd))]
		}
		again(t, b, read)
	}
	for kind := range uint8(wire.Slay + 1) {
		if read[kind] == 0 {
			t.Errorf("no %s was read", wire.Word(kind))
		}
	}
}

// again tells a message again, if bytes are one.
func again(t *testing.T, b []byte, read map[uint8]int) {
	m, e := wire.Read(b)
	if e != api.OK {
		if !wire.Same(m, wire.Msg{}) || e != api.ErrForm && e != api.ErrSize {
			t.Fatalf("%+v beside error %d", m, e)
		}
		return
	}
	read[m.Kind]++
	if got, e := wire.Bytes(m); e != api.OK || !bytes.Equal(got, b) || !m.Right() {
		t.Fatalf("%+v was read of %q, and told as %q, %d", m, b, got, e)
	}
}

// room is a list with room behind it that is not to be touched.
func room[T any](l []T, behind T) []T {
	return append(slices.Clone(l), behind, behind)[:len(l)]
}

// P701: what is handed in is not changed, nor the room behind it, and what is told shares nothing with it.
func TestP701BytesApart(t *testing.T) {
	m := promise()
	m.Members, m.Entries, m.Tail = room(m.Members, proc(99, 99)), room(m.Entries, entry.Entry{Kind: 99}), room(m.Tail, entry.Entry{Kind: 99})
	one, _ := wire.Bytes(m)
	two, _ := wire.Bytes(m)
	_ = append(one, 99)
	clear(one)
	if string(two) != bytesOfMessages()[9] || !wire.Same(m, promise()) {
		t.Errorf("%q, %+v", two, m)
	}
	if m.Members[:3][2] != proc(99, 99) || m.Entries[:3][2].Kind != 99 || m.Tail[:2][1].Kind != 99 {
		t.Error("the room behind a list was changed")
	}
}

// P701: two messages of the same bytes share nothing, nor do the lists of one.
func TestP701ReadApart(t *testing.T) {
	for i, in := range bytesOfMessages() {
		b := append([]byte(in), 99)[:len(in)]
		one, _ := wire.Read(b)
		two, _ := wire.Read(b)
		clear(one.Parts)
		clear(one.View.Members)
		_, _, _ = append(one.Members, proc(99, 99)), append(one.Entries, entry.Entry{Kind: 99}), append(one.Tail, entry.Entry{Kind: 99})
		clear(one.Members)
		clear(one.Entries)
		if len(one.Tail) > 0 && one.Tail[0].Kind != entry.Kill {
			t.Error("two lists of one message share")
		}
		if string(b[:len(b)+1]) != in+"\x63" {
			t.Errorf("%q was changed", in)
		}
		clear(b)
		if !wire.Same(two, messages()[i]) {
			t.Errorf("%+v shares", two)
		}
	}
}
