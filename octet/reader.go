package octet

import (
	"math"
	"slices"

	"gemot/api"
)

// cursor is a place in bytes: it knows how each kind of thing is read, and nothing of errors that were met ahead.
type cursor struct {
	rest []byte
}

func (c *cursor) octet() (uint8, api.Errno) {
	if len(c.rest) == 0 {
		return 0, api.ErrForm
	}
	v := c.rest[0]
	c.rest = c.rest[1:]
	return v, api.OK
}

func (c *cursor) number(most uint64) (uint64, api.Errno) {
	var v uint64
	for i := range groups {
		g, e := c.octet()
		if e != api.OK {
			return 0, e
		}
		bits := uint64(g &^ more)
		shift := uint(i * groupBits)
		if bits<<shift>>shift != bits {
			return 0, api.ErrForm
		}
		v |= bits << shift
		if g >= more {
			continue
		}
		return ended(v, most, g == 0 && i > 0)
	}
	return 0, api.ErrForm
}

// ended tells a number whose last group was read: only the shortest way to write it counts, so that the same bytes come when it is written again.
func ended(v, most uint64, needless bool) (uint64, api.Errno) {
	if needless {
		return 0, api.ErrForm
	}
	if v > most {
		return 0, api.ErrSize
	}
	return v, api.OK
}

func (c *cursor) signed() (int64, api.Errno) {
	v, e := c.number(math.MaxUint64)
	return Zag(v), e
}

func (c *cursor) text(most int) (string, api.Errno) {
	n, e := c.number(uint64(max(most, 0)))
	if e != api.OK {
		return "", e
	}
	if n > uint64(len(c.rest)) {
		return "", api.ErrForm
	}
	s := string(c.rest[:n])
	c.rest = c.rest[n:]
	return s, api.OK
}

// Reader is what is left to read, and the first error. One that Read did not make answers ErrArg.
type Reader struct {
	cursor
	made bool
	err  api.Errno
}

// Read keeps a copy: the caller may change his bytes meanwhile.
func Read(b []byte) *Reader {
	return &Reader{cursor: cursor{rest: slices.Clone(b)}, made: true}
}

// field reads one thing by its kind; it is the one place where an error that was met stops all that comes behind it.
func field[T any](r *Reader, kind func() (T, api.Errno)) T {
	var none T
	if r.Err() != api.OK {
		return none
	}
	v, e := kind()
	if e != api.OK {
		r.Fail(e)
		return none
	}
	return v
}

// U reads a number of at most most.
func (r *Reader) U(most uint64) uint64 {
	return field(r, func() (uint64, api.Errno) { return r.number(most) })
}

// I reads a number with a sign.
func (r *Reader) I() int64 {
	return field(r, func() (int64, api.Errno) { return r.signed() })
}

// B reads a byte.
func (r *Reader) B() uint8 {
	return field(r, func() (uint8, api.Errno) { return r.octet() })
}

// Text reads a text of at most most bytes.
func (r *Reader) Text(most int) string {
	return field(r, func() (string, api.Errno) { return r.text(most) })
}

// Left is how many bytes are not read yet; none behind an error.
func (r *Reader) Left() int {
	if r == nil {
		return 0
	}
	return len(r.rest)
}

// Err is the first error.
func (r *Reader) Err() api.Errno {
	if r == nil || !r.made {
		return api.ErrArg
	}
	return r.err
}

// End is the first error; bytes that are left are one, too, but are not kept as one.
func (r *Reader) End() api.Errno {
	if e := r.Err(); e != api.OK {
		return e
	}
	if r.Left() > 0 {
		return api.ErrForm
	}
	return api.OK
}

// Fail notes an error that a caller met in what was read. What is left is let go, since nothing behind an error is read.
func (r *Reader) Fail(e api.Errno) {
	if e == api.OK || r.Err() != api.OK {
		return
	}
	r.err, r.rest = e, nil
}
