package cont

import (
	"math"

	"gemot/api"
	"gemot/ident"
	"gemot/octet"
	"gemot/part"
	"gemot/store"
)

// mostText is the greatest length of a key or a value that is read. It is more than a right part's: what a key was before is taken in as it is told.
const mostText = 255

// Put writes a table; its group is not written, as who loads it knows it.
func (t *Table) Put(w *octet.Writer) {
	if !t.made() {
		return
	}
	w.U(uint64(t.Len()))
	for _, c := range t.inOrder() {
		put(w, c)
	}
}

func put(w *octet.Writer, c Cont) {
	ident.PutID(w, c.ID)
	part.Put(w, c.First)
	part.PutAll(w, c.Rest)
	part.PutRes(w, c.Res)
	w.Text(c.Old.Key)
	w.Text(c.Old.Value)
	if c.Old.Has {
		w.B(1)
	} else {
		w.B(0)
	}
	w.U(uint64(c.Floor))
}

// get reads what put wrote.
func get(r *octet.Reader) Cont {
	return Cont{
		ID:    ident.GetID(r),
		First: part.Get(r),
		Rest:  part.GetAll(r),
		Res:   part.GetRes(r),
		Old:   store.Write{Key: r.Text(mostText), Value: r.Text(mostText), Has: flag(r)},
		Floor: uint32(r.U(math.MaxUint32)),
	}
}

// flag reads 1 or 0.
func flag(r *octet.Reader) bool {
	v := r.B()
	if v > 1 {
		r.Fail(api.ErrForm)
	}
	return v == 1
}

// Load reads a group's table; nil, if that can't be one that Put wrote. What the table does not take in, or what does not rise, is an error of the Reader, too: bytes that would not come back are in a wrong form.
func Load(group uint8, r *octet.Reader) *Table {
	t := New(group)
	if t == nil {
		return nil
	}
	var last ident.ID
	for range r.U(most) {
		c := get(r)
		if r.Err() != api.OK {
			break
		}
		child, e := t.Add(c)
		if e != api.OK || t.Len() > 1 && ident.Compare(last, child) >= 0 {
			r.Fail(api.ErrForm)
			break
		}
		last = child
	}
	if r.Err() != api.OK {
		return nil
	}
	return t
}
