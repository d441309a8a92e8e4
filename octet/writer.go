package octet

import "slices"

// Writer is what was written. The zero one has nothing yet.
type Writer struct {
	b []byte
}

// U writes a number.
func (w *Writer) U(v uint64) {
	if w == nil {
		return
	}
	for ; v >= more; v >>= groupBits {
		w.b = append(w.b, uint8(v)|more)
	}
	w.b = append(w.b, uint8(v))
}

// I writes a number with a sign.
func (w *Writer) I(v int64) {
	w.U(Zig(v))
}

// B writes a byte.
func (w *Writer) B(v uint8) {
	if w == nil {
		return
	}
	w.b = append(w.b, v)
}

// Text writes a text behind its length.
func (w *Writer) Text(s string) {
	if w == nil {
		return
	}
	w.U(uint64(len(s)))
	w.b = append(w.b, s...)
}

// Bytes are a copy, so that what is written later, or done to it, is not seen on the other side.
func (w *Writer) Bytes() []byte {
	if w == nil {
		return nil
	}
	return slices.Clone(w.b)
}
