package store_test

import (
	"math"
	"math/big"
	"math/rand"
	"regexp"
	"slices"
	"strconv"
	"strings"
	"testing"

	"gemot/api"
	"gemot/part"
	"gemot/store"
)

const (
	greatest = "9223372036854775807"
	least    = "-9223372036854775808"
)

// noNumbers are values that are no number of 64 bits, signed, or are not written as one.
func noNumbers() []string {
	return []string{
		"", " ", "x", "-", "+", "+5", "-0", "00", "05", "-05", "5 ", " 5", "5.0", "5e1", "0x5", "1_000", "5,5", "\x005", "٣",
		"9223372036854775808", "-9223372036854775809", "18446744073709551616", strings.Repeat("9", api.MaxValue),
	}
}

// P402: what each part comes to, one key being there or not.
func TestP402Do(t *testing.T) {
	add := func(n int64) part.Part { return part.Part{Kind: part.Add, Key: "a", N: n} }
	take := func(n int64) part.Part { return part.Part{Kind: part.Take, Key: "a", N: n} }
	write := func(value string) part.Part { return part.Part{Kind: part.Write, Key: "a", Value: value} }
	read, erase := part.Part{Kind: part.Read, Key: "a"}, part.Part{Kind: part.Erase, Key: "a"}
	done := func(value string) part.Res { return part.Res{Value: value} }
	poor, odd := part.Res{Code: part.Poor}, part.Res{Code: part.Odd}
	none := gone("a")
	at := func(value string) store.Write { return has("a", value) }
	cases := []struct {
		was  store.Write
		p    part.Part
		want part.Res
		then store.Write // of what is Done and no Read it is the one write
	}{
		{none, read, done(""), none},
		{at(""), read, done(""), at("")},
		{at("x"), read, done("x"), at("x")},
		{at("007"), read, done("007"), at("007")},
		{none, write("x"), done(""), at("x")},
		{none, write(""), done(""), at("")},
		{at("x"), write("y"), done(""), at("y")},
		{at("x"), write("x"), done(""), at("x")},
		{at("x"), write(""), done(""), at("")},
		{at("5"), write(strings.Repeat("v", api.MaxValue)), done(""), at(strings.Repeat("v", api.MaxValue))},
		{none, erase, done(""), none},
		{at(""), erase, done(""), none},
		{at("x"), erase, done("x"), none},
		{none, add(5), done("5"), at("5")},
		{none, add(0), done("0"), at("0")},
		{none, add(math.MaxInt64), done(greatest), at(greatest)},
		{at("5"), add(0), done("5"), at("5")},
		{at("5"), add(10), done("15"), at("15")},
		{at("0"), add(3), done("3"), at("3")},
		{at("-5"), add(3), done("-2"), at("-2")},
		{at("-5"), add(5), done("0"), at("0")},
		{at("-5"), add(7), done("2"), at("2")},
		{at("-5"), add(0), done("-5"), at("-5")},
		{at(least), add(0), done(least), at(least)},
		{at(least), add(math.MaxInt64), done("-1"), at("-1")},
		{at(greatest), add(0), done(greatest), at(greatest)},
		{at(greatest), add(1), odd, at(greatest)},
		{at(greatest), add(math.MaxInt64), odd, at(greatest)},
		{at("1"), add(math.MaxInt64 - 1), done(greatest), at(greatest)},
		{at("1"), add(math.MaxInt64), odd, at("1")},
		{none, take(0), done("0"), at("0")},
		{none, take(1), poor, none},
		{none, take(math.MaxInt64), poor, none},
		{at("5"), take(0), done("5"), at("5")},
		{at("5"), take(2), done("3"), at("3")},
		{at("5"), take(5), done("0"), at("0")},
		{at("5"), take(6), poor, at("5")},
		{at("5"), take(9), poor, at("5")},
		{at("0"), take(0), done("0"), at("0")},
		{at("0"), take(1), poor, at("0")},
		{at(greatest), take(math.MaxInt64), done("0"), at("0")},
		{at("-1"), take(0), poor, at("-1")},
		{at("-1"), take(math.MaxInt64), poor, at("-1")},
		{at("-2"), take(math.MaxInt64), odd, at("-2")}, // that would be poor, too: what the chapter names first
		{at(least), take(0), poor, at(least)},
		{at(least), take(1), odd, at(least)},
		{at(least), take(math.MaxInt64), odd, at(least)},
	}
	for _, value := range noNumbers() {
		for _, n := range []int64{0, 1, math.MaxInt64} {
			cases = append(cases, []struct {
				was  store.Write
				p    part.Part
				want part.Res
				then store.Write
			}{{at(value), add(n), odd, at(value)}, {at(value), take(n), odd, at(value)}}...)
		}
	}
	for _, c := range cases {
		for group := range uint8(api.MaxGroups) { // a store asks for no group
			s := of(c.was, has("b", "7"))
			c.p.Group = group
			x, l := s.Do(c.p)
			if x != c.want || s.Get("a") != c.then || s.Get("b") != has("b", "7") {
				t.Errorf("%s of %v: %v, then %v", part.Show(c.p), c.was, x, s.All())
			}
			var want []store.Write
			if c.want.Code == part.Done && c.p.Kind != part.Read {
				want = []store.Write{c.then}
			}
			if !slices.Equal(l, want) {
				t.Errorf("%s of %v: writes %v", part.Show(c.p), c.was, l)
			}
		}
	}
}

// P402: a part that is not right.
func TestP402Wrong(t *testing.T) {
	for _, p := range wrong() {
		s := of(has("a", "5"), has("", "5"), has(longKey+"k", "5"))
		was := s.Clone()
		if x, l := s.Do(p); x != (part.Res{Code: part.Odd}) || len(l) != 0 || !s.Same(was) {
			t.Errorf("Do(%#v): %v, %v, then %v", p, x, l, s.All())
		}
	}
}

// P402: where there is no room for a key that would be new.
func TestP402Full(t *testing.T) {
	full, poor := part.Res{Code: part.Full}, part.Res{Code: part.Poor}
	write := part.Part{Kind: part.Write, Key: "new", Value: "v"}
	cases := []struct {
		p    part.Part
		want part.Res
		size int // of writes
	}{
		{write, full, 0},
		{part.Part{Kind: part.Write, Key: "new"}, full, 0},
		{part.Part{Kind: part.Add, Key: "new", N: 5}, full, 0},
		{part.Part{Kind: part.Add, Key: "new"}, full, 0},
		{part.Part{Kind: part.Take, Key: "new"}, full, 0},
		{part.Part{Kind: part.Take, Key: "new", N: 1}, poor, 0}, // and there is no room: what the chapter names first
		{part.Part{Kind: part.Read, Key: "new"}, part.Res{}, 0},
		{part.Part{Kind: part.Erase, Key: "new"}, part.Res{}, 1},
		{part.Part{Kind: part.Write, Key: "7", Value: "v"}, part.Res{}, 1},
		{part.Part{Kind: part.Add, Key: "7", N: 1}, part.Res{Value: "8"}, 1},
		{part.Part{Kind: part.Take, Key: "7", N: 1}, part.Res{Value: "6"}, 1},
		{part.Part{Kind: part.Read, Key: "7"}, part.Res{Value: "7"}, 0},
	}
	for _, n := range []int{api.MaxKeys, api.MaxKeys + 1, 5 * api.MaxKeys} {
		for _, c := range cases {
			s := many(n)
			if x, l := s.Do(c.p); x != c.want || len(l) != c.size || s.Len() != n || s.Get("new").Has {
				t.Errorf("%d keys: %s: %v, %v, then %d keys", n, part.Show(c.p), x, l, s.Len())
			}
		}
	}
	s := many(api.MaxKeys - 1)
	for range 2 { // what is erased makes room
		if x, _ := s.Do(write); x != (part.Res{}) || s.Len() != api.MaxKeys {
			t.Errorf("the last key: %v", x)
		}
		s.Do(part.Part{Kind: part.Erase, Key: "7"})
		if x, _ := s.Do(part.Part{Kind: part.Add, Key: "7", N: 7}); x.Code != part.Done {
			t.Errorf("a key in the room of another one: %v", x)
		}
		s.Do(part.Part{Kind: part.Erase, Key: "new"})
	}
}

// P403: Undo, of what is there now.
func TestP403Undo(t *testing.T) {
	add := func(n int64) part.Part { return part.Part{Kind: part.Add, Key: "a", N: n} }
	take := func(n int64) part.Part { return part.Part{Kind: part.Take, Key: "a", N: n} }
	write, erase := part.Part{Kind: part.Write, Key: "a", Value: "v"}, part.Part{Kind: part.Erase, Key: "a"}
	none := gone("a")
	at := func(value string) store.Write { return has("a", value) }
	long := strings.Repeat("long", 1000)
	cases := []struct {
		now  store.Write
		p    part.Part
		old  store.Write
		want []store.Write
	}{
		{at("v"), write, none, []store.Write{none}},
		{at("v"), write, at("x"), []store.Write{at("x")}},
		{at("v"), write, at(""), []store.Write{at("")}},
		{at("other"), write, at("x"), []store.Write{at("x")}},
		{none, write, at("x"), []store.Write{at("x")}},
		{none, write, none, []store.Write{none}},
		{none, erase, at("x"), []store.Write{at("x")}},
		{none, erase, none, []store.Write{none}},
		{at("y"), erase, at("x"), []store.Write{at("x")}},
		{at("y"), erase, none, []store.Write{none}},
		{at("v"), write, at(long), []store.Write{at(long)}},
		{at("v"), write, has("b", "x"), []store.Write{at("x")}}, // the key is the part's
		{at("v"), erase, gone("b"), []store.Write{none}},
		{at("v"), write, store.Write{Key: "a", Value: "x"}, []store.Write{none}}, // not there: no Value
		{at("8"), add(3), at("5"), []store.Write{at("5")}},
		{at("8"), add(0), at("8"), []store.Write{at("8")}},
		{at("3"), add(3), none, []store.Write{at("0")}},
		{at("9"), add(3), at("5"), []store.Write{at("6")}}, // somebody added meanwhile
		{at("1"), add(3), at("5"), []store.Write{at("-2")}},
		{none, add(3), at("5"), []store.Write{at("-3")}},
		{none, add(math.MaxInt64), none, []store.Write{at("-" + greatest)}},
		{at("-1"), add(math.MaxInt64), none, []store.Write{at(least)}},
		{at("-2"), add(math.MaxInt64), none, nil},
		{at(least), add(1), none, nil},
		{at(least), add(0), none, []store.Write{at(least)}},
		{at("2"), take(3), at("5"), []store.Write{at("5")}},
		{at("5"), take(0), at("5"), []store.Write{at("5")}},
		{at("0"), take(0), none, []store.Write{at("0")}},
		{none, take(3), at("5"), []store.Write{at("3")}},
		{none, take(0), none, []store.Write{at("0")}},
		{at("-7"), take(3), at("5"), []store.Write{at("-4")}},
		{at(greatest), take(1), at("5"), nil},
		{at("1"), take(math.MaxInt64), at(greatest), nil},
		{at("0"), take(math.MaxInt64), at(greatest), []store.Write{at(greatest)}},
		{at("v"), part.Part{Kind: part.Read, Key: "a"}, at("x"), nil},
		{none, part.Part{Kind: part.Read, Key: "a"}, at("x"), nil},
	}
	for _, value := range noNumbers() {
		for _, n := range []int64{0, 1, math.MaxInt64} {
			for _, p := range []part.Part{add(n), take(n)} {
				cases = append(cases, struct {
					now  store.Write
					p    part.Part
					old  store.Write
					want []store.Write
				}{at(value), p, at("5"), nil})
			}
		}
	}
	for _, p := range wrong() {
		cases = append(cases, struct {
			now  store.Write
			p    part.Part
			old  store.Write
			want []store.Write
		}{at("5"), p, at("7"), nil})
	}
	for _, c := range cases {
		s := of(c.now, has("b", "7"))
		then := s.Clone()
		then.Apply(c.want)
		if l := s.Undo(c.p, c.old); !slices.Equal(l, c.want) || !s.Same(then) || s.Get("b") != has("b", "7") {
			t.Errorf("Undo(%s, %v) where there is %v: %v, then %v", part.Show(c.p), c.old, c.now, l, s.All())
		}
	}
}

// P403: Undo does not ask for room.
func TestP403NotFull(t *testing.T) {
	for _, n := range []int{api.MaxKeys, 5 * api.MaxKeys} {
		for i, p := range []part.Part{
			{Kind: part.Erase, Key: "new"},
			{Kind: part.Write, Key: "new", Value: "v"},
			{Kind: part.Take, Key: "new", N: 5},
			{Kind: part.Add, Key: "new", N: 5},
		} {
			s := many(n)
			want := []store.Write{has("new", []string{"5", "5", "5", "-5"}[i])}
			if l := s.Undo(p, has("new", "5")); !slices.Equal(l, want) || s.Len() != n+1 || s.Get("new") != want[0] {
				t.Errorf("%d keys: Undo(%s): %v, then %d keys", n, part.Show(p), l, s.Len())
			}
		}
	}
}

// slow is a store as the chapter tells it, one thing after the other, to hold Do against.
type slow map[string]string

var numeral = regexp.MustCompile(`^(0|-?[1-9][0-9]*)$`)

func (m slow) number(key string) (*big.Int, bool) {
	value, there := m[key]
	if !there {
		return big.NewInt(0), true
	}
	if !numeral.MatchString(value) {
		return nil, false
	}
	n, ok := new(big.Int).SetString(value, 10)
	return n, ok && n.IsInt64()
}

func (m slow) do(p part.Part) part.Res {
	value, there := m[p.Key]
	if !there && len(m) >= api.MaxKeys && (p.Kind == part.Write || p.Kind == part.Add || p.Kind == part.Take && p.N == 0) {
		return part.Res{Code: part.Full}
	}
	switch p.Kind {
	case part.Read:
		return part.Res{Value: value}
	case part.Write:
		m[p.Key] = p.Value
		return part.Res{}
	case part.Erase:
		delete(m, p.Key)
		return part.Res{Value: value}
	}
	v, ok := m.number(p.Key)
	if !ok {
		return part.Res{Code: part.Odd}
	}
	n := big.NewInt(p.N)
	sum := new(big.Int).Add(v, n)
	if p.Kind == part.Take {
		sum.Sub(v, n)
	}
	if !sum.IsInt64() {
		return part.Res{Code: part.Odd}
	}
	if p.Kind == part.Take && n.Cmp(v) > 0 {
		return part.Res{Code: part.Poor}
	}
	m[p.Key] = sum.String()
	return part.Res{Value: sum.String()}
}

// some is a right part: of few keys, or of more than there is room for.
func some(rnd *rand.Rand, keys int) part.Part {
	values := append(noNumbers(), "5", "0", "-3", "1", greatest, least)
	numbers := []int64{0, 1, 2, 3, 5, 100, math.MaxInt64, math.MaxInt64 - 1, math.MaxInt64 - 5}
	p := part.Part{Group: uint8(rnd.Intn(api.MaxGroups)), Kind: uint8(rnd.Intn(5)), Key: strconv.Itoa(rnd.Intn(keys))}
	switch p.Kind {
	case part.Write:
		p.Value = values[rnd.Intn(len(values))]
	case part.Add, part.Take:
		p.N = numbers[rnd.Intn(len(numbers))]
	}
	return p
}

// P402, P406: in long rows of parts a store does what the chapter tells; what Do writes, applied to a clone of what was, is what it made; and Undo right behind makes the key's value what it was.
func TestP406Rows(t *testing.T) {
	rnd := rand.New(rand.NewSource(406))
	codes := map[uint8]int{}
	for _, keys := range []int{3, 2 * api.MaxKeys} {
		s, m := store.New(), slow{}
		for range 6000 {
			p := some(rnd, keys)
			was := s.Clone()
			x, l := s.Do(p)
			if want := m.do(p); x != want {
				t.Fatalf("%s of %v: %v, not %v", part.Show(p), was.Get(p.Key), x, want)
			}
			codes[x.Code]++
			if value, there := m[p.Key]; s.Get(p.Key) != (store.Write{Key: p.Key, Value: value, Has: there}) || s.Len() != len(m) {
				t.Fatalf("%s of %v: then %v", part.Show(p), was.Get(p.Key), s.Get(p.Key))
			}
			again := was.Clone()
			again.Apply(l)
			if !again.Same(s) || (len(l) == 1) != (x.Code == part.Done && p.Kind != part.Read) {
				t.Fatalf("%s of %v: writes %v", part.Show(p), was.Get(p.Key), l)
			}
			if x.Code == part.Done {
				undone(t, s.Clone(), was, p)
			}
		}
	}
	for _, code := range []uint8{part.Done, part.Poor, part.Odd, part.Full} {
		if codes[code] == 0 {
			t.Errorf("no part came to code %d", code)
		}
	}
}

// undone tells whether Undo takes back what was just Done.
func undone(t *testing.T, s, was *store.Store, p part.Part) {
	t.Helper()
	now := s.Clone()
	old := was.Get(p.Key)
	l := s.Undo(p, old)
	now.Apply(l)
	if !now.Same(s) {
		t.Fatalf("Undo(%s, %v): writes %v, and there is %v", part.Show(p), old, l, s.Get(p.Key))
	}
	want := was.Clone()
	if !old.Has && (p.Kind == part.Add || p.Kind == part.Take) {
		want.Apply([]store.Write{has(p.Key, "0")})
	}
	if !s.Same(want) {
		t.Fatalf("Undo(%s, %v): then %v", part.Show(p), old, s.Get(p.Key))
	}
}

// The chapter's examples.
func TestExamples(t *testing.T) {
	s := store.New()
	s.Do(part.Part{Kind: part.Add, Key: "a", N: 5})
	if x, _ := s.Do(part.Part{Kind: part.Take, Key: "a", N: 2}); x != (part.Res{Value: "3"}) {
		t.Errorf("Take(a-2): %v", x)
	}
	if x, _ := s.Do(part.Part{Kind: part.Take, Key: "a", N: 9}); x != (part.Res{Code: part.Poor}) {
		t.Errorf("Take(a-9): %v", x)
	}
}
