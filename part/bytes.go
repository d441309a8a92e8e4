package part

import (
	"math"

	"gemot/api"
	"gemot/octet"
)

// mostText is the greatest length of a key or a value that is read. It is more than a right one has: what is read may not be right.
const mostText = 255

// Put writes a part.
func Put(w *octet.Writer, p Part) {
	w.B(p.Group)
	w.B(p.Kind)
	w.Text(p.Key)
	w.Text(p.Value)
	w.I(p.N)
}

// Get reads a part. A Reader reads zero values behind an error, so that the fields ahead of one are as they were read, and the others zero.
func Get(r *octet.Reader) Part {
	return Part{Group: r.B(), Kind: r.B(), Key: r.Text(mostText), Value: r.Text(mostText), N: r.I()}
}

// PutAll writes a list of parts.
func PutAll(w *octet.Writer, l []Part) {
	putList(w, l, Put)
}

// GetAll reads a list of parts.
func GetAll(r *octet.Reader) []Part {
	return getList(r, Get)
}

// putList writes how many there are, as a byte, and each; those that a byte can't count are left out, so that who reads it goes on at the right place.
func putList[T any](w *octet.Writer, l []T, put func(*octet.Writer, T)) {
	l = l[:min(len(l), math.MaxUint8)]
	w.B(uint8(len(l)))
	for _, x := range l {
		put(w, x)
	}
}

// getList reads what putList wrote. The one in which an error is met is not among those that it answers: they were all read whole.
func getList[T any](r *octet.Reader, get func(*octet.Reader) T) []T {
	var l []T
	for range r.B() {
		x := get(r)
		if r.Err() != api.OK {
			break
		}
		l = append(l, x)
	}
	return l
}

// PutRes writes a result.
func PutRes(w *octet.Writer, x Res) {
	w.B(x.Code)
	w.Text(x.Value)
}

// GetRes reads a result; what is behind an error is zero, as in Get.
func GetRes(r *octet.Reader) Res {
	return Res{Code: r.B(), Value: r.Text(mostResult)}
}
