package wire

import (
	"math"

	"gemot/api"
	"gemot/entry"
	"gemot/ident"
	"gemot/octet"
	"gemot/part"
	"gemot/view"
)

// Bytes is a message as bytes.
func Bytes(m Msg) ([]byte, api.Errno) {
	if !m.Right() {
		return nil, api.ErrArg
	}
	w := &octet.Writer{}
	put(w, m)
	return w.Bytes(), api.OK
}

// Read is the message of bytes. One that is not right is refused, so that nobody above has to ask for it.
func Read(b []byte) (Msg, api.Errno) {
	if len(b) > api.MaxFrame {
		return Msg{}, api.ErrSize
	}
	r := octet.Read(b)
	m := get(r)
	if e := r.End(); e != api.OK {
		return Msg{}, e
	}
	if !m.Right() {
		return Msg{}, api.ErrForm
	}
	return m, api.OK
}

// put writes a message: what its kind shares with others at its beginning, then what is behind it. A Promise with a value goes on as the Propose of that value.
func put(w *octet.Writer, m Msg) {
	w.B(m.Kind)
	putHead(w, m)
	switch m.Kind {
	case Ask:
		w.U(uint64(m.Floor))
		part.PutAll(w, m.Parts)
	case Answer:
		part.PutRes(w, m.Res)
		view.Put(w, m.View)
	case Refuse:
		w.B(m.Code)
	case Append:
		w.U(uint64(m.From))
		w.U(uint64(m.Commit))
		entry.PutAll(w, m.Entries)
	case Acked:
		w.U(uint64(m.From))
	case Promise:
		entry.PutAll(w, m.Entries)
		putHas(w, m.Has)
		if !m.Has {
			break
		}
		w.U(m.Acc)
		fallthrough
	case Propose:
		putList(w, m.Members, ident.PutProc)
		entry.PutAll(w, m.Tail)
	case Install:
		view.Put(w, m.View)
		entry.PutAll(w, m.Entries)
	case Join, Leave, Slay:
		ident.PutProc(w, m.Proc)
	}
}

// putHead writes whose call a message is about, or which group's, or which view's, or which ballot's: an Ask names the group ahead of the call. Install begins with its view, which names the group itself.
func putHead(w *octet.Writer, m Msg) {
	switch m.Kind {
	case Ask:
		w.B(m.Group)
		fallthrough
	case Answer, Refuse:
		ident.PutID(w, m.ID)
	case Append, Acked:
		w.B(m.Group)
		w.U(uint64(m.N))
	case Prepare, Accept, Nack, Promise, Propose:
		w.B(m.Group)
		w.U(uint64(m.N))
		w.U(m.Ballot)
	case Join, Leave, Slay:
		w.B(m.Group)
	}
}

// get reads what put wrote, right or not. A Reader reads zero values behind an error, so that it need not stop at one.
func get(r *octet.Reader) Msg {
	m := getHead(r)
	switch m.Kind {
	case Ask:
		m.Floor = number(r)
		m.Parts = part.GetAll(r)
	case Answer:
		m.Res = part.GetRes(r)
		m.View = view.Get(r)
	case Refuse:
		m.Code = r.B()
	case Append:
		m.From = number(r)
		m.Commit = number(r)
		m.Entries = entry.GetAll(r)
	case Acked:
		m.From = number(r)
	case Promise:
		m.Entries = entry.GetAll(r)
		m.Has = getHas(r)
		if !m.Has {
			break
		}
		m.Acc = r.U(math.MaxUint64)
		fallthrough
	case Propose:
		m.Members = getList(r, ident.GetProc)
		m.Tail = entry.GetAll(r)
	case Install:
		m.View = view.Get(r)
		m.Entries = entry.GetAll(r)
	case Join, Leave, Slay:
		m.Proc = ident.GetProc(r)
	}
	return m
}

// getHead reads the kind, and what putHead wrote.
func getHead(r *octet.Reader) Msg {
	m := Msg{Kind: r.B()}
	switch m.Kind {
	case Ask:
		m.Group = r.B()
		fallthrough
	case Answer, Refuse:
		m.ID = ident.GetID(r)
	case Append, Acked:
		m.Group, m.N = r.B(), number(r)
	case Prepare, Accept, Nack, Promise, Propose:
		m.Group, m.N, m.Ballot = r.B(), number(r), r.U(math.MaxUint64)
	case Install:
	case Join, Leave, Slay:
		m.Group = r.B()
	default:
		r.Fail(api.ErrForm)
	}
	return m
}

// number reads a number that a field of 32 bits can hold; whether it is too great for what it means is asked when all is read.
func number(r *octet.Reader) uint32 {
	return uint32(r.U(math.MaxUint32))
}

func putHas(w *octet.Writer, has bool) {
	if has {
		w.B(1)
	} else {
		w.B(0)
	}
}

func getHas(r *octet.Reader) bool {
	has := r.B()
	if has > 1 {
		r.Fail(api.ErrForm)
	}
	return has == 1
}

// putList writes how many there are, as a byte, and each; lists of right messages are shorter than a byte can count.
func putList[T any](w *octet.Writer, l []T, put func(*octet.Writer, T)) {
	w.B(uint8(len(l)))
	for _, x := range l {
		put(w, x)
	}
}

// getList reads what putList wrote.
func getList[T any](r *octet.Reader, get func(*octet.Reader) T) []T {
	var l []T
	for range r.B() {
		l = append(l, get(r))
	}
	return l
}
