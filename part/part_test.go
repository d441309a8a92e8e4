package part_test

import (
	"math"
	"slices"
	"strings"
	"testing"

	"gemot/api"
	"gemot/part"
)

var (
	longKey   = strings.Repeat("k", api.MaxKey)
	longValue = strings.Repeat("v", api.MaxValue)
)

// rightOnes are right parts, each once.
func rightOnes() []part.Part {
	var l []part.Part
	for _, group := range []uint8{0, 1, api.MaxGroups - 1} {
		for _, key := range []string{"a", "\x00", "\xff\x80", longKey} {
			l = append(l,
				part.Part{Group: group, Kind: part.Read, Key: key},
				part.Part{Group: group, Kind: part.Erase, Key: key})
			for _, value := range []string{"", "x", "\x00", longValue} {
				l = append(l, part.Part{Group: group, Kind: part.Write, Key: key, Value: value})
			}
			for _, n := range []int64{0, 1, 5, math.MaxInt64} {
				l = append(l,
					part.Part{Group: group, Kind: part.Add, Key: key, N: n},
					part.Part{Group: group, Kind: part.Take, Key: key, N: n})
			}
		}
	}
	return l
}

// wrongOnes are parts that may not be: each is wrong in one thing alone.
func wrongOnes() []part.Part {
	l := []part.Part{
		{},
		{Kind: part.Write, Key: "a", Value: longValue + "v"},
		{Kind: part.Write, Key: "a", Value: strings.Repeat("v", 300)},
		{Kind: part.Write, Key: "a", Value: "x", N: 1},
		{Kind: part.Write, Key: "a", N: -1},
	}
	for kind := range uint8(5) {
		l = append(l,
			part.Part{Group: api.MaxGroups, Kind: kind, Key: "a"},
			part.Part{Group: 255, Kind: kind, Key: "a"},
			part.Part{Kind: kind},
			part.Part{Kind: kind, Key: longKey + "k"},
			part.Part{Kind: kind, Key: strings.Repeat("k", 300)},
			part.Part{Kind: kind, Key: "a", N: -1},
			part.Part{Kind: kind, Key: "a", N: math.MinInt64})
	}
	for _, kind := range []uint8{part.Read, part.Add, part.Take, part.Erase} {
		l = append(l,
			part.Part{Kind: kind, Key: "a", Value: "x"},
			part.Part{Kind: kind, Key: "a", Value: "\x00"})
	}
	for _, kind := range []uint8{part.Read, part.Write, part.Erase} {
		l = append(l,
			part.Part{Kind: kind, Key: "a", N: 1},
			part.Part{Kind: kind, Key: "a", N: math.MaxInt64})
	}
	for kind := 5; kind < 256; kind++ {
		l = append(l, part.Part{Kind: uint8(kind), Key: "a"})
	}
	return l
}

// The kinds' and codes' numbers, as the chapter tells them.
func TestNumbers(t *testing.T) {
	if part.Read != 0 || part.Write != 1 || part.Add != 2 || part.Take != 3 || part.Erase != 4 {
		t.Error("kinds")
	}
	if part.Done != 0 || part.Poor != 1 || part.Odd != 2 || part.Dead != 3 || part.Undone != 4 || part.Full != 5 {
		t.Error("codes")
	}
}

// P302: Right of parts.
func TestP302RightParts(t *testing.T) {
	for _, p := range rightOnes() {
		if !p.Right() {
			t.Errorf("%#v is not right", p)
		}
	}
	for _, p := range wrongOnes() {
		if p.Right() {
			t.Errorf("%#v is right", p)
		}
	}
}

// P302: Right of lists.
func TestP302RightLists(t *testing.T) {
	one := part.Part{Kind: part.Add, Key: "a", N: 1}
	for n := range 300 {
		if got := part.Right(slices.Repeat([]part.Part{one}, n)); got != (n >= 1 && n <= api.MaxParts) {
			t.Errorf("of %d parts: %#v", n, got)
		}
	}
	if part.Right(nil) || part.Right([]part.Part{}) {
		t.Error("a list without parts is right")
	}
	for _, p := range rightOnes() { // of any groups and keys, one of them twice
		if !part.Right([]part.Part{p}) || !part.Right([]part.Part{one, p, p, {Group: 3, Kind: part.Read, Key: "b"}}) {
			t.Errorf("a list with %#v is not right", p)
		}
	}
	for _, p := range wrongOnes() {
		for at := range api.MaxParts {
			l := slices.Repeat([]part.Part{one}, api.MaxParts)
			l[at] = p
			if part.Right(l) || part.Right(l[:at+1]) {
				t.Errorf("a list with %#v at %d is right", p, at)
			}
			if !part.Right(l[:at]) && at > 0 {
				t.Errorf("what stands ahead of %#v is not right", p)
			}
		}
	}
}

// P302: Right of results.
func TestP302RightResults(t *testing.T) {
	for code := range 256 {
		for _, n := range []int{0, 1, api.MaxValue, 255, 256, 999, 1000, 1001, 5000} {
			x := part.Res{Code: uint8(code), Value: strings.Repeat("\xff", n)}
			if got := x.Right(); got != (code <= 5 && n <= 1000) {
				t.Errorf("code %d, %d bytes: %#v", code, n, got)
			}
		}
	}
}

// P304: Join.
func TestP304Join(t *testing.T) {
	done := func(s string) part.Res { return part.Res{Value: s} }
	cases := []struct{ first, rest, want part.Res }{
		{done("5"), done("7"), done("5,7")},
		{done(""), done(""), done(",")},
		{done("5"), done(""), done("5,")},
		{done(""), done("7"), done(",7")},
		{done("a,b"), done("c,d"), done("a,b,c,d")},
		{done("5"), part.Res{Code: part.Poor}, part.Res{Code: part.Undone}},
		{done("5"), part.Res{Code: part.Odd, Value: "x"}, part.Res{Code: part.Undone, Value: "x"}},
		{done("5"), part.Res{Code: part.Undone, Value: "y"}, part.Res{Code: part.Undone, Value: "y"}},
		{done("5"), part.Res{Code: part.Dead, Value: "z"}, part.Res{Code: part.Undone, Value: "z"}},
		{done("5"), part.Res{Code: part.Full, Value: "z"}, part.Res{Code: part.Undone, Value: "z"}},
		{done("5"), part.Res{Code: 6, Value: "z"}, part.Res{Code: part.Undone, Value: "z"}},
		{done("5"), part.Res{Code: 255}, part.Res{Code: part.Undone}},
	}
	for _, code := range []uint8{part.Poor, part.Odd, part.Dead, part.Undone, part.Full, 6, 255} {
		for _, value := range []string{"", "5"} {
			first := part.Res{Code: code, Value: value}
			for _, rest := range []part.Res{done("7"), {}, {Code: part.Poor, Value: "7"}, {Code: part.Undone}} {
				cases = append(cases, struct{ first, rest, want part.Res }{first, rest, first})
			}
		}
	}
	for _, c := range cases {
		if got := part.Join(c.first, c.rest); got != c.want {
			t.Errorf("Join(%#v, %#v): %#v", c.first, c.rest, got)
		}
	}
	long := part.Res{Value: strings.Repeat("v", 900)}
	if got := part.Join(long, long); got != done(long.Value+","+long.Value) {
		t.Errorf("Join of long ones: %d bytes", len(got.Value))
	}
}

// P304: Show, of parts that may not be, too.
func TestP304Show(t *testing.T) {
	cases := []struct {
		p    part.Part
		want string
	}{
		{part.Part{Group: 1, Kind: part.Take, Key: "a", N: 5}, "1:Take(a-5)"},
		{part.Part{Kind: part.Read, Key: "a"}, "0:Read(a)"},
		{part.Part{Group: 3, Kind: part.Write, Key: "key", Value: "some thing"}, "3:Write(key=some thing)"},
		{part.Part{Kind: part.Write, Key: "a"}, "0:Write(a=)"},
		{part.Part{Group: 2, Kind: part.Add, Key: "b", N: math.MaxInt64}, "2:Add(b+9223372036854775807)"},
		{part.Part{Kind: part.Add, Key: "b"}, "0:Add(b+0)"},
		{part.Part{Kind: part.Erase, Key: "b"}, "0:Erase(b)"},
		{part.Part{Kind: 5, Key: "b"}, "0:?"},
		{part.Part{Group: 255, Kind: 255, Key: "b", Value: "c", N: 1}, "255:?"},
		{part.Part{}, "0:Read()"},
		{part.Part{Group: 4, Kind: part.Read, Key: "\xff\x00", Value: "no", N: 7}, "4:Read(\xff\x00)"},
		{part.Part{Kind: part.Write, Key: "a", Value: "v", N: 7}, "0:Write(a=v)"},
		{part.Part{Kind: part.Add, Key: "a", Value: "v", N: -3}, "0:Add(a+-3)"},
		{part.Part{Kind: part.Take, Value: "v", N: math.MinInt64}, "0:Take(--9223372036854775808)"},
		{part.Part{Group: 10, Kind: part.Erase, Key: "a", Value: "v", N: 7}, "10:Erase(a)"},
	}
	for _, c := range cases {
		if got := part.Show(c.p); got != c.want {
			t.Errorf("Show(%#v): %q, not %q", c.p, got, c.want)
		}
	}
}

// P304: Same.
func TestP304Same(t *testing.T) {
	a := part.Part{Group: 1, Kind: part.Write, Key: "a", Value: "x"}
	b := part.Part{Group: 1, Kind: part.Take, Key: "a", N: 5}
	lists := [][]part.Part{
		{}, {a}, {b}, {a, b}, {b, a}, {a, a}, {a, b, a}, {{}}, {{}, {}},
		{{Group: 2, Kind: part.Write, Key: "a", Value: "x"}},
		{{Group: 1, Kind: part.Read, Key: "a", Value: "x"}},
		{{Group: 1, Kind: part.Write, Key: "b", Value: "x"}},
		{{Group: 1, Kind: part.Write, Key: "a", Value: "y"}},
		{{Group: 1, Kind: part.Write, Key: "a", Value: "x", N: 1}},
		slices.Repeat([]part.Part{a}, 300), slices.Repeat([]part.Part{a}, 301),
	}
	for i, x := range lists {
		for j, y := range lists {
			if part.Same(x, slices.Clone(y)) != (i == j) {
				t.Errorf("Same of list %d and list %d: %#v", i, j, i != j)
			}
		}
	}
	if !part.Same(nil, nil) || !part.Same(nil, []part.Part{}) || part.Same(nil, []part.Part{a}) || part.Same([]part.Part{a}, nil) {
		t.Error("Same of nil")
	}
}

// P301: what is handed in is not changed, nor the room behind it.
func TestP301Unchanged(t *testing.T) {
	room := append(rightOnes(), wrongOnes()...)
	was := slices.Clone(room)
	for _, p := range room {
		p.Right()
		part.Show(p)
		part.Put(nil, p)
	}
	for _, n := range []int{0, 2, 4, 300} {
		part.Right(room[:n])
		part.Same(room[:n], room[n:])
		part.PutAll(nil, room[:n])
	}
	if !slices.Equal(room, was) {
		t.Error("a list was changed")
	}
}
