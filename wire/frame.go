package wire

import (
	"math"

	"gemot/api"
	"gemot/ident"
	"gemot/octet"
)

// sumBytes is how many bytes the sum at a frame's end has.
const sumBytes = 4

// Packet is what goes from node to node: a message's bytes, or none, on a link.
type Packet struct {
	From, To ident.Proc
	Seq, Ack uint64
	Has      bool
	Body     []byte
}

// right tells whether there may be such a packet, however long.
func (p Packet) right() bool {
	return p.From.Right() && p.To.Right() && (p.Has || len(p.Body) == 0)
}

// Frame is a packet as bytes, with their sum. A body that is too long alone is not written at all.
func Frame(p Packet) ([]byte, api.Errno) {
	if !p.right() {
		return nil, api.ErrArg
	}
	if len(p.Body) > api.MaxFrame {
		return nil, api.ErrSize
	}
	w := &octet.Writer{}
	putPacket(w, p)
	putSum(w)
	b := w.Bytes()
	if len(b) > api.MaxFrame {
		return nil, api.ErrSize
	}
	return b, api.OK
}

// Unframe is the packet of a frame. Its sum is asked ahead of all else, so that what was spoilt is not even looked at.
func Unframe(b []byte) (Packet, api.Errno) {
	if len(b) > api.MaxFrame {
		return Packet{}, api.ErrSize
	}
	if !summed(b) {
		return Packet{}, api.ErrSum
	}
	r := octet.Read(b[:len(b)-sumBytes])
	p := getPacket(r)
	if e := r.End(); e != api.OK {
		return Packet{}, e
	}
	if !p.right() {
		return Packet{}, api.ErrForm
	}
	return p, api.OK
}

func putPacket(w *octet.Writer, p Packet) {
	ident.PutProc(w, p.From)
	ident.PutProc(w, p.To)
	w.U(p.Seq)
	w.U(p.Ack)
	putHas(w, p.Has)
	if p.Has {
		w.Text(string(p.Body))
	}
}

// getPacket reads what putPacket wrote, right or not.
func getPacket(r *octet.Reader) Packet {
	p := Packet{From: ident.GetProc(r), To: ident.GetProc(r), Seq: r.U(math.MaxUint64), Ack: r.U(math.MaxUint64), Has: getHas(r)}
	if p.Has {
		p.Body = []byte(r.Text(api.MaxFrame))
	}
	return p
}

// putSum writes the sum of all that was written. The highest byte is the first one: so a change of up to four bytes is found even where it lies over the sum's beginning.
func putSum(w *octet.Writer) {
	s := octet.Sum(w.Bytes())
	for i := range sumBytes {
		w.B(sumByte(s, i))
	}
}

// summed tells whether bytes end with the sum of those ahead of it.
func summed(b []byte) bool {
	n := len(b) - sumBytes
	if n < 0 {
		return false
	}
	s := octet.Sum(b[:n])
	for i := range sumBytes {
		if b[n+i] != sumByte(s, i) {
			return false
		}
	}
	return true
}

// sumByte is one of a sum's bytes, the highest first.
func sumByte(s uint32, i int) uint8 {
	return uint8(s >> (8 * (sumBytes - 1 - i)))
}
