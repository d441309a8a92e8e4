package ident

import (
	"math"

	"gemot/api"
	"gemot/octet"
)

// PutProc writes a process.
func PutProc(w *octet.Writer, p Proc) {
	w.B(p.Node)
	w.U(uint64(p.Life))
}

// GetProc reads a process; the zero one, where that met an error.
func GetProc(r *octet.Reader) Proc {
	p := Proc{Node: r.B(), Life: uint16(r.U(math.MaxUint16))}
	if r.Err() != api.OK {
		return Proc{}
	}
	return p
}

// steps is how many steps stand behind a Depth in bytes: none behind one that may not be, so that who writes it and who reads it go on at the same place.
func steps(depth uint8) int {
	if depth > api.MaxDepth {
		return 0
	}
	return int(depth)
}

// PutID writes an identifier.
func PutID(w *octet.Writer, d ID) {
	PutProc(w, d.Client)
	w.U(uint64(d.Seq))
	w.B(d.Depth)
	for _, s := range d.Path[:steps(d.Depth)] {
		w.B(s.Group)
		w.B(s.Index)
	}
}

// GetID reads an identifier; the zero one, where that met an error.
func GetID(r *octet.Reader) ID {
	d := ID{Client: GetProc(r), Seq: uint32(r.U(math.MaxUint32)), Depth: r.B()}
	for i := range steps(d.Depth) {
		d.Path[i] = Step{Group: r.B(), Index: r.B()}
	}
	if r.Err() != api.OK {
		return ID{}
	}
	return d
}
