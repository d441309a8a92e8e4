package wheel_test

import (
	"cmp"
	"math"
	"math/rand"
	"slices"
	"testing"

	"gemot/api"
	"gemot/ident"
	"gemot/wheel"
)

// timer is a key and its time.
type timer struct {
	k  wheel.Key
	at int
}

// key is one of a kind, for the nth life of a node and a call of it.
func key(kind uint8, n int) wheel.Key {
	p := ident.Proc{Node: 3, Life: uint16(n)}
	return wheel.Key{Kind: kind, Proc: p, ID: ident.ID{Client: p, Seq: 7}}
}

// rising are keys in their order, right ones and such as may not be.
func rising() []wheel.Key {
	a, b := ident.Proc{Node: 1, Life: 1}, ident.Proc{Node: 1, Life: 300}
	first, second := ident.ID{Client: a, Seq: 1}, ident.ID{Client: a, Seq: 2}
	child, _ := ident.Child(first, 2, 0)
	return []wheel.Key{
		{},
		{ID: first},
		{ID: ident.ID{Client: ident.Proc{Node: 255, Life: math.MaxUint16}, Seq: math.MaxUint32, Depth: 255}},
		{Proc: ident.Proc{Life: 1}},
		{Proc: a},
		{Proc: a, ID: first},
		{Proc: a, ID: child},
		{Proc: a, ID: second},
		{Proc: a, ID: ident.ID{Client: b, Seq: 1}},
		{Proc: b},
		{Proc: b, ID: first},
		{Proc: ident.Proc{Node: 2, Life: 1}},
		{Proc: ident.Proc{Node: 255, Life: math.MaxUint16}, ID: second},
		{Kind: 1},
		{Kind: 1, ID: child},
		{Kind: 1, Proc: a},
		{Kind: 2, Proc: a, ID: first},
		{Kind: 127},
		{Kind: 128},
		{Kind: 255},
	}
}

// of is a wheel of at most most, with these timers.
func of(most int, l ...timer) *wheel.Wheel {
	w := wheel.New(most)
	for _, x := range l {
		w.Set(x.k, x.at)
	}
	return w
}

// holds fails, unless just these timers are set.
func holds(t *testing.T, w *wheel.Wheel, want ...timer) {
	t.Helper()
	if w.Len() != len(want) {
		t.Errorf("%d are set, not %d", w.Len(), len(want))
	}
	for _, x := range want {
		if at, set := w.At(x.k); !set || at != x.at {
			t.Errorf("%v is at %d, %v, not %d", x.k, at, set, x.at)
		}
	}
	next, some := w.Next()
	if some != (len(want) > 0) {
		t.Errorf("Next tells %v of %d", some, len(want))
	}
	least := 0
	if len(want) > 0 {
		least = slices.MinFunc(want, func(a, b timer) int { return cmp.Compare(a.at, b.at) }).at
	}
	if next != least {
		t.Errorf("next is %d, not %d", next, least)
	}
}

// due fails, unless just these keys are due, in that order.
func due(t *testing.T, w *wheel.Wheel, now int, want ...wheel.Key) {
	t.Helper()
	if l := w.Due(now); !slices.Equal(l, want) {
		t.Errorf("Due(%d): %v, not %v", now, l, want)
	}
}

// P901: a nil Wheel, and one that New did not make.
func TestP901NilAndUnmade(t *testing.T) {
	var none *wheel.Wheel
	for name, w := range map[string]*wheel.Wheel{"nil": none, "unmade": {}} {
		for range 2 { // what was refused must not have made it one
			for _, k := range []wheel.Key{{}, key(1, 1)} {
				for _, at := range []int{0, 5, -1, math.MinInt, math.MaxInt} {
					if e := w.Set(k, at); e != api.ErrArg {
						t.Errorf("%s: Set is %d", name, e)
					}
					if l := w.Due(at); len(l) != 0 {
						t.Errorf("%s: due is %v", name, l)
					}
				}
				if at, set := w.At(k); at != 0 || set || w.Cancel(k) {
					t.Errorf("%s: %v is set", name, k)
				}
			}
			if at, some := w.Next(); at != 0 || some || w.Len() != 0 {
				t.Errorf("%s: something is set", name)
			}
		}
	}
}

// P901: what is told shares nothing with the wheel, nor with what else is told, not even room.
func TestP901ToldApart(t *testing.T) {
	w := of(9, timer{key(0, 1), 1}, timer{key(0, 2), 2}, timer{key(0, 3), 5}, timer{key(0, 4), 9})
	a := w.Due(2)
	b := w.Due(5)
	_ = append(a, key(9, 9), key(9, 9))
	clear(a[:cap(a)])
	if !slices.Equal(b, []wheel.Key{key(0, 3)}) {
		t.Errorf("%v has changed", b)
	}
	clear(b[:cap(b)])
	holds(t, w, timer{key(0, 4), 9})
	w.Set(key(0, 1), 3)
	c := w.Due(9)
	w.Set(key(0, 5), 1)
	w.Set(key(0, 6), 2)
	w.Due(9)
	if !slices.Equal(c, []wheel.Key{key(0, 1), key(0, 4)}) {
		t.Errorf("%v has changed by what was done later", c)
	}
}

// P901: two wheels have nothing to do with each other.
func TestP901TwoWheels(t *testing.T) {
	a, b := of(2, timer{key(0, 1), 1}, timer{key(0, 2), 2}), of(3, timer{key(0, 1), 7})
	a.Cancel(key(0, 1))
	due(t, a, 9, key(0, 2))
	holds(t, a)
	holds(t, b, timer{key(0, 1), 7})
}

// P901: nothing hangs on the order in which a map is gone through, nor on that in which keys were set.
func TestP901SameAgain(t *testing.T) {
	rnd := rand.New(rand.NewSource(901))
	var first []wheel.Key
	for range 30 {
		w := wheel.New(api.MaxTimers)
		for _, n := range rnd.Perm(200) {
			w.Set(key(uint8(n%3), n), n%5-2)
		}
		l := w.Due(1)
		if first == nil {
			first = l
		}
		if len(l) != 160 || !slices.Equal(l, first) {
			t.Fatalf("%v, and then %v", first, l)
		}
		if at, some := w.Next(); w.Len() != 40 || at != 2 || !some {
			t.Fatalf("%d are set, next is %d", w.Len(), at)
		}
	}
}

// P902: how many keys a wheel takes.
func TestP902Most(t *testing.T) {
	cases := []struct{ most, want int }{
		{0, 0}, {-1, 0}, {math.MinInt, 0}, {1, 1}, {2, 2}, {7, 7},
		{api.MaxTimers - 1, api.MaxTimers - 1}, {api.MaxTimers, api.MaxTimers}, {api.MaxTimers + 1, api.MaxTimers}, {math.MaxInt, api.MaxTimers},
	}
	for _, c := range cases {
		w := wheel.New(c.most)
		holds(t, w)
		due(t, w, math.MaxInt)
		for n := range c.want {
			if e := w.Set(key(1, n), n); e != api.OK {
				t.Fatalf("a wheel of %d: %d at the %dth", c.most, e, n)
			}
		}
		extra := key(1, c.want)
		if e := w.Set(extra, -5); e != api.ErrFull || w.Len() != c.want {
			t.Errorf("a wheel of %d: %d, then %d are set", c.most, e, w.Len())
		}
		if at, set := w.At(extra); at != 0 || set || w.Cancel(extra) {
			t.Errorf("a wheel of %d: what was refused is set", c.most)
		}
		if c.want == 0 {
			continue
		}
		if e := w.Set(key(1, 0), 3); e != api.OK || w.Len() != c.want {
			t.Errorf("a wheel of %d: %d of a key that is set, when it is full", c.most, e)
		}
		if !w.Cancel(key(1, 0)) || w.Set(extra, -5) != api.OK || w.Set(key(1, 0), 3) != api.ErrFull {
			t.Errorf("a wheel of %d: room for one", c.most)
		}
		due(t, w, -5, extra)
		if w.Set(key(1, 0), 3) != api.OK || w.Set(extra, 3) != api.ErrFull {
			t.Errorf("a wheel of %d: room for the one that was due", c.most)
		}
	}
}

// P902: any key is set, to any time, and told with it.
func TestP902AnyKey(t *testing.T) {
	times := []int{0, 1, -1, 1 << 62, -1 << 62, math.MaxInt, math.MinInt, math.MaxInt - 1, math.MinInt + 1}
	var l []timer
	for i, k := range rising() {
		l = append(l, timer{k, times[i%len(times)]})
	}
	w := of(len(l), l...)
	holds(t, w, l...)
	slices.SortStableFunc(l, func(a, b timer) int { return cmp.Compare(a.at, b.at) })
	var want []wheel.Key
	for _, x := range l {
		want = append(want, x.k)
	}
	due(t, w, math.MaxInt, want...)
	holds(t, w)
}

// P902: keys that differ in one field are two timers.
func TestP902KeysApart(t *testing.T) {
	k := key(1, 5)
	others := []wheel.Key{k, k, k, k, k, k}
	others[0].Kind++
	others[1].Proc.Node++
	others[2].Proc.Life++
	others[3].ID.Client.Node++
	others[4].ID.Seq++
	others[5].ID, _ = ident.Child(k.ID, 0, 0)
	w := of(9, timer{k, 4})
	for _, o := range others {
		if at, set := w.At(o); at != 0 || set || w.Cancel(o) {
			t.Errorf("%v is set", o)
		}
	}
	for i, o := range others {
		w.Set(o, i)
	}
	holds(t, w, timer{k, 4}, timer{others[0], 0}, timer{others[1], 1}, timer{others[2], 2}, timer{others[3], 3}, timer{others[4], 4}, timer{others[5], 5})
}

// P902: Set replaces an elder time, be it a lesser or a greater one.
func TestP902SetAnew(t *testing.T) {
	a, b := key(0, 1), key(0, 2)
	w := of(2, timer{a, 5}, timer{b, 6})
	for _, at := range []int{3, 8, 8, -4, 0} {
		if e := w.Set(a, at); e != api.OK {
			t.Errorf("Set to %d: %d", at, e)
		}
		holds(t, w, timer{a, at}, timer{b, 6})
	}
	if w.Set(key(0, 3), 1) != api.ErrFull {
		t.Error("a key more")
	}
	holds(t, w, timer{a, 0}, timer{b, 6})
}

// P902: Cancel tells whether the key was set.
func TestP902Cancel(t *testing.T) {
	a, b, c := key(0, 1), key(0, 2), key(1, 1)
	w := of(3, timer{a, 5}, timer{b, 3})
	if w.Cancel(c) || w.Cancel(wheel.Key{}) {
		t.Error("what was not set was cancelled")
	}
	holds(t, w, timer{a, 5}, timer{b, 3})
	if !w.Cancel(b) {
		t.Error("what was set was not cancelled")
	}
	holds(t, w, timer{a, 5})
	if w.Cancel(b) {
		t.Error("cancelled twice")
	}
	if at, set := w.At(b); at != 0 || set {
		t.Errorf("what was cancelled is at %d", at)
	}
	due(t, w, 9, a)
	if w.Cancel(a) {
		t.Error("what was due was cancelled")
	}
}

// P902: At, Next and Len change nothing.
func TestP902Looks(t *testing.T) {
	l := []timer{{key(0, 1), -7}, {key(0, 2), 0}, {key(2, 2), 4}}
	w := of(3, l...)
	for range 3 {
		holds(t, w, l...)
		if at, set := w.At(key(9, 9)); at != 0 || set {
			t.Errorf("one that is not set is at %d", at)
		}
	}
	due(t, w, 4, key(0, 1), key(0, 2), key(2, 2))
}

// P902: Due tells by rising times; the chapter's own example.
func TestP902Due(t *testing.T) {
	a, b, c, d := key(0, 1), key(0, 2), key(1, 1), key(1, 2)
	w := of(2, timer{a, 5}, timer{b, 3})
	due(t, w, 4, b)
	holds(t, w, timer{a, 5})
	w = of(4, timer{a, 9}, timer{b, -3}, timer{c, 0}, timer{d, 4})
	due(t, w, -4)
	due(t, w, 4, b, c, d)
	holds(t, w, timer{a, 9})
	due(t, w, 8)
	due(t, w, 9, a)
	due(t, w, math.MaxInt)
}

// P902: of one time, keys are due by their order, whenever they were set.
func TestP902DueOfOneTime(t *testing.T) {
	rnd := rand.New(rand.NewSource(902))
	for range 20 {
		l := rising()
		rnd.Shuffle(len(l), func(i, j int) { l[i], l[j] = l[j], l[i] })
		w := wheel.New(len(l))
		for _, k := range l {
			w.Set(k, 6)
		}
		due(t, w, 5)
		due(t, w, 6, rising()...)
	}
	all := rising()
	w := wheel.New(len(all))
	for i, k := range all { // the later half is due ahead
		w.Set(k, -(2*i)/len(all))
	}
	half := len(all) / 2
	due(t, w, 0, append(slices.Clone(all[half:]), all[:half]...)...)
}

// P902: the order of keys.
func TestP902Compare(t *testing.T) {
	l := rising()
	for i, a := range l {
		for j, b := range l {
			if got, want := wheel.Compare(a, b), cmp.Compare(i, j); got != want {
				t.Errorf("Compare(%v, %v): %d, not %d", a, b, got, want)
			}
		}
	}
}

// P903: a timer is due once, at the first Due whose now is not below its time.
func TestP903Once(t *testing.T) {
	k := key(0, 1)
	for _, at := range []int{0, 1, -1, 5, -1 << 62, 1 << 62, math.MaxInt, math.MinInt} {
		w := of(1, timer{k, at})
		if at > math.MinInt {
			due(t, w, math.MinInt)
			due(t, w, at-1)
			holds(t, w, timer{k, at})
		}
		due(t, w, at, k)
		due(t, w, at)
		due(t, w, math.MaxInt)
		holds(t, w)
		w.Set(k, at)
		due(t, w, math.MaxInt, k)
		due(t, w, math.MaxInt)
	}
}

// P903: what is set to a time that is over is due at the next Due, though that one's now is less than an earlier one's.
func TestP903Late(t *testing.T) {
	k := key(0, 1)
	w := wheel.New(2)
	due(t, w, 100)
	w.Set(k, 3)
	due(t, w, 2)
	due(t, w, 3, k)
	due(t, w, 100)
}

// P903: what is cancelled is never due, what is set anew is due by its new time alone.
func TestP903CancelledAndAnew(t *testing.T) {
	a, b, c := key(0, 1), key(0, 2), key(0, 3)
	w := of(3, timer{a, 2}, timer{b, 2}, timer{c, 8})
	w.Cancel(a)
	w.Set(b, 5)
	w.Set(c, 1)
	due(t, w, 2, c)
	due(t, w, 4)
	due(t, w, 5, b)
	due(t, w, 9)
	w.Set(a, 9)
	w.Cancel(a)
	w.Set(a, 10)
	due(t, w, 9)
	due(t, w, 10, a)
	holds(t, w)
}

// P902, P903: any calls, held against a list of timers.
func TestP903AnyCalls(t *testing.T) {
	rnd := rand.New(rand.NewSource(903))
	const most = 6
	w, l := wheel.New(most), []timer{}
	now := 0
	for range 20000 {
		k := key(uint8(rnd.Intn(2)), rnd.Intn(5))
		i := slices.IndexFunc(l, func(x timer) bool { return x.k == k })
		switch rnd.Intn(4) {
		case 0, 1:
			at, want := now+rnd.Intn(9)-3, api.OK
			if i >= 0 {
				l[i].at = at
			} else if len(l) < most {
				l = append(l, timer{k, at})
			} else {
				want = api.ErrFull
			}
			if e := w.Set(k, at); e != want {
				t.Fatalf("Set: %d, not %d", e, want)
			}
		case 2:
			if w.Cancel(k) != (i >= 0) {
				t.Fatal("Cancel")
			}
			if i >= 0 {
				l = slices.Delete(l, i, i+1)
			}
		case 3:
			now += rnd.Intn(4) - 1
			slices.SortFunc(l, func(a, b timer) int { return cmp.Or(cmp.Compare(a.at, b.at), wheel.Compare(a.k, b.k)) })
			var want []wheel.Key
			for len(l) > 0 && l[0].at <= now {
				want, l = append(want, l[0].k), l[1:]
			}
			due(t, w, now, want...)
		}
		holds(t, w, l...)
		if t.Failed() {
			return
		}
	}
}
