package view

import (
	"math"

	"gemot/api"
	"gemot/ident"
	"gemot/octet"
)

// Put writes a view. Members that a byte can't count are left out, so that who reads it goes on at the right place.
func Put(w *octet.Writer, v View) {
	l := v.Members[:min(len(v.Members), math.MaxUint8)]
	w.B(v.Group)
	w.U(uint64(v.N))
	w.B(uint8(len(l)))
	for _, p := range l {
		ident.PutProc(w, p)
	}
}

// Get reads a view, right or not; the zero one, where that met an error.
func Get(r *octet.Reader) View {
	v := View{Group: r.B(), N: uint32(r.U(math.MaxUint32))}
	for range r.B() {
		v.Members = append(v.Members, ident.GetProc(r))
	}
	if r.Err() != api.OK {
		return View{}
	}
	return v
}
