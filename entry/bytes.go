package entry

import (
	"math"

	"gemot/api"
	"gemot/ident"
	"gemot/octet"
	"gemot/part"
	"gemot/store"
)

// mostText is the greatest length of a key or a value that is read. It is more than a right one has: what is read may not be right.
const mostText = 255

// Put writes an entry. What a Check came to stands behind what it has as a Call, and begins with what a Back has.
func Put(w *octet.Writer, e Entry) {
	w.B(e.Kind)
	if named(e.Kind) {
		ident.PutID(w, e.ID)
	}
	switch e.Kind {
	case Kill:
		ident.PutProc(w, e.Victim)
	case Call, Check:
		w.U(uint64(e.Floor))
		part.PutAll(w, e.Parts)
		if e.Kind == Call {
			break
		}
		fallthrough
	case Back:
		part.PutRes(w, e.Res)
		if e.Kind == Check {
			putWrites(w, e.Writes)
		}
	}
}

// Get reads an entry; the zero one, where that met an error.
func Get(r *octet.Reader) Entry {
	e := Entry{Kind: r.B()}
	if named(e.Kind) {
		e.ID = ident.GetID(r)
	}
	switch e.Kind {
	case Kill:
		e.Victim = ident.GetProc(r)
	case Call, Check:
		e.Floor = uint32(r.U(math.MaxUint32))
		e.Parts = part.GetAll(r)
		if e.Kind == Call {
			break
		}
		fallthrough
	case Back:
		e.Res = part.GetRes(r)
		if e.Kind == Check {
			e.Writes = getList(r, int(r.B()), getWrite)
		}
	default:
		r.Fail(api.ErrForm)
	}
	if r.Err() != api.OK {
		return Entry{}
	}
	return e
}

// named tells whether entries of a kind are those of a call, whose identifier stands ahead of all else.
func named(kind uint8) bool {
	return kind == Call || kind == Back || kind == Check
}

// PutAll writes a list of entries.
func PutAll(w *octet.Writer, l []Entry) {
	w.U(uint64(len(l)))
	putList(w, l, Put)
}

// GetAll reads a list of entries.
func GetAll(r *octet.Reader) []Entry {
	return getList(r, int(r.U(api.MaxLog)), Get)
}

// putWrites leaves out those that a byte can't count, so that who reads them goes on at the right place.
func putWrites(w *octet.Writer, l []store.Write) {
	l = l[:min(len(l), math.MaxUint8)]
	w.B(uint8(len(l)))
	putList(w, l, putWrite)
}

func putWrite(w *octet.Writer, x store.Write) {
	w.Text(x.Key)
	w.Text(x.Value)
	if x.Has {
		w.B(1)
	} else {
		w.B(0)
	}
}

func getWrite(r *octet.Reader) store.Write {
	x := store.Write{Key: r.Text(mostText), Value: r.Text(mostText)}
	has := r.B()
	if has > 1 {
		r.Fail(api.ErrForm)
	}
	x.Has = has == 1
	return x
}

// putList writes each of a list; how many there are stands ahead of it as the list's kind asks.
func putList[T any](w *octet.Writer, l []T, put func(*octet.Writer, T)) {
	for _, x := range l {
		put(w, x)
	}
}

// getList reads a list of n; none, where that met an error: a part of a list is no list that anybody wrote.
func getList[T any](r *octet.Reader, n int, get func(*octet.Reader) T) []T {
	var l []T
	for range n {
		x := get(r)
		if r.Err() != api.OK {
			return nil
		}
		l = append(l, x)
	}
	return l
}
