package store_test

import (
	"bytes"
	"math/rand"
	"slices"
	"strings"
	"testing"

	"gemot/api"
	"gemot/octet"
	"gemot/store"
)

// written are the bytes of a store.
func written(s *store.Store) []byte {
	w := &octet.Writer{}
	s.Put(w)
	return w.Bytes()
}

// put are the bytes of a list of keys and values, one behind the other, whether they rise or not.
func put(texts ...string) []byte {
	w := &octet.Writer{}
	w.U(uint64(len(texts) / 2))
	for _, s := range texts {
		w.Text(s)
	}
	return w.Bytes()
}

// P405: the bytes of stores.
func TestP405Put(t *testing.T) {
	cases := []struct {
		s    *store.Store
		want string
	}{
		{store.New(), "\x00"},
		{of(has("a", "5")), "\x01\x01a\x015"},
		{of(has("b", ""), has("a", "\x00\xff"), has("", "x")), "\x03\x00\x01x\x01a\x02\x00\xff\x01b\x00"},
		{of(has("k", strings.Repeat("v", 300))), "\x01\x01k\xac\x02" + strings.Repeat("v", 300)},
	}
	for _, c := range cases {
		if got := string(written(c.s)); got != c.want {
			t.Errorf("%v: %q, not %q", c.s.All(), got, c.want)
		}
	}
	if b := written(many(5 * api.MaxKeys)); string(b[:2]) != "\x80\x0a" {
		t.Errorf("how many: %q", b[:2])
	}
	w := &octet.Writer{}
	w.B(7)
	of(has("a", "5")).Put(w)
	w.B(7)
	if string(w.Bytes()) != "\x07\x01\x01a\x015\x07" {
		t.Errorf("among others: %q", w.Bytes())
	}
}

// P405, P406: a store that is put is loaded as it was, and what stands behind it is left.
func TestP406ThereAndBack(t *testing.T) {
	long := strings.Repeat("l", 255)
	for _, s := range []*store.Store{
		store.New(),
		of(has("a", "5")),
		of(has("", "")),
		of(has("", "x"), has("\x00", ""), has("\xff\x80", "\x00\xff"), has(longKey, "v")),
		of(has(long, long), has("k", long)),
		many(api.MaxKeys),
		many(4 * api.MaxKeys),
	} {
		r := octet.Read(append(written(s), 7, 8))
		got := store.Load(r)
		if !s.Same(got) || !slices.Equal(got.All(), s.All()) || r.Left() != 2 || r.B() != 7 {
			t.Errorf("%d keys: %d came back", s.Len(), got.Len())
		}
		got.Apply([]store.Write{has("more", "1")})
		if got.Len() != s.Len()+1 || s.Get("more").Has {
			t.Errorf("%d keys: what is loaded is not whole", s.Len())
		}
	}
}

// P405: what is no store.
func TestP405Refused(t *testing.T) {
	long := strings.Repeat("l", 256)
	cases := map[string][]byte{
		"nothing":                 {},
		"a number's beginning":    {0x80},
		"a needless group":        {0x80, 0},
		"no key":                  {1},
		"a key's beginning":       {1, 2, 'a'},
		"no value":                {1, 1, 'a'},
		"a value's beginning":     {1, 1, 'a', 3, 'x'},
		"one too few":             {2, 1, 'a', 0},
		"a key twice":             put("a", "1", "a", "1"),
		"no key twice":            put("", "1", "", "2"),
		"a key twice, later":      put("a", "1", "b", "1", "b", "2"),
		"keys that fall":          put("b", "1", "a", "1"),
		"no key behind one":       put("a", "1", "", "1"),
		"keys that fall, later":   put("a", "1", "c", "1", "b", "1", "d", "1"),
		"a beginning behind it":   put("ab", "1", "a", "1"),
		"signed bytes":            put("\xff", "1", "a", "1"),
		"a long key":              put(long, "1"),
		"a long value":            put("a", long),
		"a long key, later":       put("a", "1", "b"+long, "1"),
		"a long value, later":     put("a", "1", "b", long),
		"one too many":            written(many(4*api.MaxKeys + 1)),
		"far too many":            {0xff, 0xff, 0xff, 0xff, 0xff, 0xff, 0xff, 0xff, 0xff, 1},
		"too many, and few bytes": {0x81, 8, 0, 0},
	}
	for name, b := range cases {
		r := octet.Read(b)
		if s := store.Load(r); s != nil {
			t.Errorf("%s: %v", name, s.All())
		}
		if r.Err() == api.OK || r.Left() != 0 {
			t.Errorf("%s: the Reader goes on", name)
		}
	}
	r := octet.Read(put("a", "1"))
	r.Fail(api.ErrSum)
	if store.Load(r) != nil || r.Err() != api.ErrSum {
		t.Error("behind an error")
	}
}

// P405: what is loaded of any bytes, and put again, are the bytes that were read.
func TestP405AnyBytes(t *testing.T) {
	rnd := rand.New(rand.NewSource(405))
	odd := []byte{0, 1, 2, 3, 'a', 'b', 0x80, 0xff}
	loaded := 0
	for range 200000 {
		b := make([]byte, rnd.Intn(14))
		for i := range b {
			b[i] = odd[rnd.Intn(len(odd))]
		}
		r := octet.Read(b)
		s := store.Load(r)
		if s == nil {
			continue
		}
		loaded++
		if !bytes.Equal(written(s), b[:len(b)-r.Left()]) {
			t.Fatalf("%q was loaded of %q", written(s), b)
		}
	}
	if loaded == 0 {
		t.Error("nothing was loaded")
	}
}
