package log

import (
	"math"
	"math/rand"
	"slices"
	"strings"
	"testing"

	"curfew/api"
)

// model is a log by the words of the chapter: a list that is never written into.
type model []api.Entry

func mayBe(e api.Entry) bool {
	const greatest = int64(1) << 40
	return e.From >= 1 && e.From <= 7 && e.Boot >= 1 && e.Boot <= greatest && e.Seq >= 1 && e.Seq <= greatest &&
		e.Order >= 0 && e.Order <= 2 && e.Level >= 0 && e.Level <= 2 && e.Stamp >= 0 && e.Stamp <= greatest && len(e.Data) <= 16
}

func (m model) has(e api.Entry) bool {
	for _, x := range m {
		if x.From == e.From && x.Boot == e.Boot && x.Seq == e.Seq {
			return true
		}
	}
	return false
}

func (m model) add(e api.Entry) (model, bool) {
	if !mayBe(e) || m.has(e) || len(m) >= 60 || len(m) > 0 && e.Stamp < m[len(m)-1].Stamp {
		return m, false
	}
	return append(slices.Clip(slices.Clone(m)), e), true
}

func (m model) put(at int, es []api.Entry) (model, bool) {
	if at < 0 || at > len(m) {
		return m, false
	}
	longer := m
	for i, e := range es {
		if i < len(m)-at {
			if m[at+i] != e {
				return m, false
			}
			continue
		}
		var ok bool
		if longer, ok = longer.add(e); !ok {
			return m, false
		}
	}
	return longer, true
}

// e gives an entry that may be.
func e(seq, stamp int64) api.Entry { return api.Entry{From: 1, Boot: 1, Seq: seq, Stamp: stamp} }

// run gives the entries of the numbers from low to high, all of one stamp.
func run(low, high, stamp int64) []api.Entry {
	var l []api.Entry
	for seq := low; seq <= high; seq++ {
		l = append(l, e(seq, stamp))
	}
	return l
}

func list(l ...api.Entry) []api.Entry { return l }

// checkLog asks for all that a log tells.
func checkLog(t *testing.T, l *Log, want []api.Entry) {
	t.Helper()
	if l.Len() != len(want) {
		t.Fatalf("Len: %d; want %d", l.Len(), len(want))
	}
	for _, i := range append([]int{math.MinInt, -61, -1, 0, len(want) + 1, len(want) + 2, 61, 1 << 32, 1<<32 + 1, math.MaxInt}, placesOf(want)...) {
		var x api.Entry
		ok := i >= 1 && i <= len(want)
		if ok {
			x = want[i-1]
		}
		if got, is := l.At(i); got != x || is != ok {
			t.Fatalf("At(%d): %v, %v; want %v, %v", i, got, is, x, ok)
		}
	}
	for _, at := range append([]int{math.MinInt, -61, -1, 0, len(want) + 1, len(want) + 2, 61, 1 << 32, 1<<32 + 1, math.MaxInt}, placesOf(want)...) {
		var x []api.Entry
		if at >= 0 && at <= len(want) {
			x = want[at:]
		}
		if got := l.From(at); !slices.Equal(got, x) {
			t.Fatalf("From(%d): %v; want %v", at, got, x)
		}
	}
	for _, x := range want {
		if !l.Has(x) {
			t.Fatalf("Has(%v): false", x)
		}
	}
}

func placesOf(l []api.Entry) []int {
	var places []int
	for i := range l {
		places = append(places, i+1)
	}
	return places
}

// wrongOnes are entries that may not be, each for one field of it.
func wrongOnes() []api.Entry {
	var l []api.Entry
	for _, n := range []int64{math.MinInt64, -1 << 40, -1, 0, 8, 1<<32 + 1} {
		l = append(l, api.Entry{From: int(n), Boot: 5, Seq: 5, Stamp: 50})
	}
	for _, n := range []int64{math.MinInt64, -1 << 40, -1, 0, 1<<40 + 1, math.MaxInt64} {
		l = append(l, api.Entry{From: 1, Boot: n, Seq: 5, Stamp: 50}, api.Entry{From: 1, Boot: 5, Seq: n, Stamp: 50})
	}
	for _, n := range []int{math.MinInt, -1, 3, 1 << 32, math.MaxInt} {
		l = append(l, api.Entry{From: 1, Boot: 5, Seq: 5, Stamp: 50, Order: n}, api.Entry{From: 1, Boot: 5, Seq: 5, Stamp: 50, Level: n})
	}
	for _, n := range []int64{1<<40 + 1, math.MaxInt64} {
		l = append(l, api.Entry{From: 1, Boot: 5, Seq: 5, Stamp: n})
	}
	return append(l, api.Entry{}, api.Entry{From: 1, Boot: 5, Seq: 5, Stamp: 50, Data: strings.Repeat("x", 17)})
}

func TestP13_1New(t *testing.T) {
	for _, c := range []struct{ given, want []api.Entry }{
		{nil, nil},
		{list(e(1, 0)), list(e(1, 0))},
		{list(e(2, 5), e(1, 5), e(3, 6)), list(e(2, 5), e(1, 5), e(3, 6))},
		{list(e(1, 0), e(1, 0)), list(e(1, 0))},
		{list(e(1, 0), e(1, 7), e(2, 3)), list(e(1, 0), e(2, 3))},
		{list(e(1, 9), e(2, 8), e(3, 9), e(4, 0), e(5, 10)), list(e(1, 9), e(3, 9), e(5, 10))},
		{list(api.Entry{}, e(1, 1), e(0, 2), e(2, 2), e(3, 1<<40+1), e(4, 2)), list(e(1, 1), e(2, 2), e(4, 2))},
		{list(e(1, -1), e(2, 0)), list(e(2, 0))},
		{run(1, 60, 4), run(1, 60, 4)},
		{run(1, 61, 4), run(1, 60, 4)},
		{run(1, 1000, 4), run(1, 60, 4)},
		{slices.Concat(run(1, 40, 4), run(1, 40, 5), run(30, 100, 3), run(30, 100, 6)), slices.Concat(run(1, 40, 4), run(41, 60, 6))},
	} {
		checkLog(t, New(c.given...), c.want)
	}
}

func TestP13_1AddStamp(t *testing.T) {
	for _, last := range []int64{0, 1, 5, 1 << 31, 1 << 32, 1<<40 - 1, 1 << 40} {
		for d := int64(-2); d <= 2; d++ {
			l := New(e(1, 0), e(2, last))
			want := last+d >= last && last+d <= 1<<40
			if got := l.Add(e(3, last+d)); got != want {
				t.Errorf("Add of %d behind %d: %v", last+d, last, got)
			}
			if l.Len() != 2 && !want || l.Len() != 3 && want {
				t.Errorf("Len behind Add of %d: %d", last+d, l.Len())
			}
		}
	}
}

// The last one's Stamp counts, though what could not be added had a greater one.
func TestP13_1AddIsTold(t *testing.T) {
	l := New()
	for _, c := range []struct {
		e  api.Entry
		ok bool
	}{
		{e(5, 10), true}, {e(5, 10), false}, {e(5, 20), false}, {e(1<<40+1, 30), false}, {e(4, 9), false}, {e(4, 10), true},
		{api.Entry{From: 2, Boot: 1, Seq: 5, Stamp: 10}, true}, {api.Entry{From: 1, Boot: 2, Seq: 5, Stamp: 10}, true},
		{api.Entry{From: 1, Boot: 1, Seq: 5, Stamp: 11, Order: 2, Level: 1, Data: "other"}, false},
		{e(6, 1<<40), true}, {e(7, 1<<40-1), false}, {e(7, 1<<40), true},
	} {
		if got := l.Add(c.e); got != c.ok {
			t.Errorf("Add(%v): %v", c.e, got)
		}
	}
	checkLog(t, l, list(e(5, 10), e(4, 10), api.Entry{From: 2, Boot: 1, Seq: 5, Stamp: 10}, api.Entry{From: 1, Boot: 2, Seq: 5, Stamp: 10}, e(6, 1<<40), e(7, 1<<40)))
}

func TestP13_1AddOfWrongOnes(t *testing.T) {
	for _, x := range wrongOnes() {
		for _, l := range []*Log{New(), New(e(1, 3), e(2, 4))} {
			was := l.From(0)
			if l.Add(x) || l.Has(x) {
				t.Errorf("Add(%v)", x)
			}
			checkLog(t, l, was)
			if l.Put(l.Len(), list(x)) || l.Put(l.Len(), list(e(9, 20), x)) || l.Put(l.Len(), list(x, e(9, 60))) {
				t.Errorf("Put of %v", x)
			}
			checkLog(t, l, was)
		}
	}
}

func TestP13_1AddOfMany(t *testing.T) {
	l := New()
	for i := range int64(60) {
		if !l.Add(e(i+1, i)) {
			t.Fatalf("Add of the %d-th", i+1)
		}
	}
	for i := int64(61); i < 70; i++ {
		if l.Add(e(i, i)) {
			t.Errorf("Add of the %d-th", i)
		}
	}
	if l.Has(e(61, 61)) || !l.Has(e(60, 0)) {
		t.Error("Has of a full log")
	}
}

func TestP13_1Has(t *testing.T) {
	full := api.Entry{From: 2, Boot: 3, Seq: 4, Order: 1, Level: 2, Stamp: 5, Data: "data"}
	l := New(e(1, 1), full, e(2, 9))
	for _, c := range []struct {
		e   api.Entry
		has bool
	}{
		{full, true}, {e(1, 1), true}, {e(2, 9), true}, {e(3, 9), false}, {e(4, 5), false},
		{api.Entry{From: 2, Boot: 3, Seq: 4}, true},
		{api.Entry{From: 2, Boot: 3, Seq: 4, Order: -7, Level: 99, Stamp: -1, Data: strings.Repeat("x", 1000)}, true},
		{api.Entry{From: 3, Boot: 3, Seq: 4, Order: 1, Level: 2, Stamp: 5, Data: "data"}, false},
		{api.Entry{From: 2, Boot: 4, Seq: 4, Order: 1, Level: 2, Stamp: 5, Data: "data"}, false},
		{api.Entry{From: 2, Boot: 3, Seq: 5, Order: 1, Level: 2, Stamp: 5, Data: "data"}, false},
		{api.Entry{From: 2, Boot: 3 + 1<<32, Seq: 4}, false}, {api.Entry{From: 2, Boot: 3, Seq: 4 + 1<<32}, false}, {api.Entry{From: 2 + 1<<32, Boot: 3, Seq: 4}, false},
		{api.Entry{From: -2, Boot: -3, Seq: -4}, false}, {api.Entry{}, false},
	} {
		if got := l.Has(c.e); got != c.has {
			t.Errorf("Has(%v): %v", c.e, got)
		}
	}
	if New().Has(api.Entry{}) || New().Has(e(1, 1)) {
		t.Error("Has of an empty log")
	}
}

func TestP13_1PutKnown(t *testing.T) {
	three := list(e(1, 2), e(2, 4), e(3, 4))
	for i, c := range []struct {
		at  int
		es  []api.Entry
		ok  bool
		new []api.Entry
	}{
		{0, nil, true, nil}, {1, nil, true, nil}, {2, nil, true, nil}, {3, nil, true, nil},
		{-1, nil, false, nil}, {4, nil, false, nil}, {math.MaxInt, nil, false, nil}, {math.MinInt, nil, false, nil}, {1 << 32, nil, false, nil},
		{-1, three, false, nil}, {-3, three, false, nil}, {4, list(e(4, 4)), false, nil}, {math.MaxInt, list(e(4, 4)), false, nil},
		{0, three, true, nil}, {0, three[:1], true, nil}, {0, three[:2], true, nil}, {1, three[1:], true, nil}, {1, three[1:2], true, nil}, {2, three[2:], true, nil},
		{1, three, false, nil}, {0, three[1:], false, nil}, {2, three, false, nil}, {3, three, false, nil}, {3, three[:1], false, nil},
		{3, list(e(4, 4)), true, list(e(4, 4))}, {3, list(e(4, 3)), false, nil}, {3, list(e(4, 4), e(5, 9), e(6, 9)), true, list(e(4, 4), e(5, 9), e(6, 9))},
		{2, list(e(3, 4), e(4, 5)), true, list(e(4, 5))}, {0, list(e(1, 2), e(2, 4), e(3, 4), e(4, 5)), true, list(e(4, 5))},
		{2, list(e(4, 4), e(5, 5)), false, nil}, {2, list(e(3, 5), e(4, 5)), false, nil}, {0, list(e(1, 2), e(2, 5), e(3, 5), e(4, 5)), false, nil},
		{2, list(e(3, 4), e(4, 3)), false, nil}, {2, list(e(3, 4), e(4, 5), e(5, 4)), false, nil},
		{3, list(e(4, 4), e(4, 4)), false, nil}, {3, list(e(4, 4), e(4, 5)), false, nil}, {3, list(e(4, 4), e(1, 4)), false, nil}, {3, list(e(4, 4), e(3, 4)), false, nil},
		{3, list(e(4, 4), e(5, 4), api.Entry{}), false, nil}, {3, list(api.Entry{}), false, nil}, {2, list(api.Entry{}), false, nil}, {0, list(api.Entry{}), false, nil},
		{3, run(4, 60, 8), true, run(4, 60, 8)}, {3, run(4, 61, 8), false, nil}, {2, append(list(e(3, 4)), run(4, 60, 8)...), true, run(4, 60, 8)}, {2, append(list(e(3, 4)), run(4, 61, 8)...), false, nil},
	} {
		l := New(three...)
		if ok := l.Put(c.at, c.es); ok != c.ok {
			t.Errorf("%d: Put(%d, %v): %v", i, c.at, c.es, ok)
		}
		checkLog(t, l, slices.Concat(three, c.new))
	}
}

// What is there is held against es by Eq, field by field; by Same alone it would pass.
func TestP13_1PutIsOfEqOnes(t *testing.T) {
	full := api.Entry{From: 2, Boot: 3, Seq: 4, Order: 1, Level: 1, Stamp: 5, Data: "data"}
	for i, f := range []func(x *api.Entry){
		func(x *api.Entry) { x.From++ }, func(x *api.Entry) { x.Boot++ }, func(x *api.Entry) { x.Seq++ }, func(x *api.Entry) { x.Order++ },
		func(x *api.Entry) { x.Level++ }, func(x *api.Entry) { x.Stamp++ }, func(x *api.Entry) { x.Data += "." }, func(x *api.Entry) { x.Stamp-- },
	} {
		other := full
		f(&other)
		l := New(e(1, 1), full, e(2, 9))
		for _, x := range []struct {
			at int
			es []api.Entry
		}{{1, list(other)}, {0, list(e(1, 1), other)}, {0, list(e(1, 1), other, e(2, 9))}, {1, list(other, e(2, 9), e(3, 9))}} {
			if l.Put(x.at, x.es) {
				t.Errorf("%d: Put(%d, %v)", i, x.at, x.es)
			}
			checkLog(t, l, list(e(1, 1), full, e(2, 9)))
		}
	}
}

// Those that a Put took back are not there for what comes behind it: neither by their number nor by their Stamp.
func TestP13_1PutOfNoneLeavesNothing(t *testing.T) {
	l := New(e(1, 2))
	if l.Put(1, list(e(2, 50), e(3, 60), e(1, 60))) || l.Has(e(2, 50)) || l.Has(e(3, 60)) {
		t.Fatal("Put of one that is there")
	}
	if !l.Add(e(3, 3)) || !l.Put(1, list(e(3, 3), e(2, 3))) {
		t.Error("Add and Put behind a Put of none")
	}
	checkLog(t, l, list(e(1, 2), e(3, 3), e(2, 3)))
}

func TestP13_1PutOfFullLog(t *testing.T) {
	full := run(1, 60, 7)
	l := New(full...)
	for at := range 61 {
		if !l.Put(at, nil) || !l.Put(at, full[at:]) || l.Put(at, append(slices.Clone(full[at:]), e(61, 7))) {
			t.Errorf("Put(%d) of a full log", at)
		}
	}
	if l.Put(61, nil) || l.Put(60, list(e(61, 7))) {
		t.Error("Put behind a full log")
	}
	checkLog(t, l, full)
}

func TestP13_1PutIntoEmpty(t *testing.T) {
	for _, c := range []struct {
		at int
		es []api.Entry
		ok bool
	}{{0, nil, true}, {1, nil, false}, {-1, nil, false}, {0, run(1, 60, 0), true}, {0, run(1, 61, 0), false}, {1, list(e(1, 0)), false}, {0, list(e(2, 9), e(1, 9)), true}, {0, list(e(2, 9), e(1, 8)), false}} {
		l := New()
		if got := l.Put(c.at, c.es); got != c.ok {
			t.Errorf("Put(%d, %d): %v", c.at, len(c.es), got)
		}
		if !c.ok {
			c.es = nil
		}
		checkLog(t, l, c.es)
	}
}

func TestP13_1Front(t *testing.T) {
	three := list(e(1, 2), e(2, 4), e(3, 4))
	for i := range 4 {
		for j := range 4 {
			if got := Front(three[:i], three[:j]); got != (i <= j) {
				t.Errorf("Front of %d and %d: %v", i, j, got)
			}
			if got := Front(three[i:], three[j:]); got != (i == j || i == 3) {
				t.Errorf("Front of those from %d and from %d: %v", i, j, got)
			}
		}
	}
	if Front(three, nil) || Front(list(api.Entry{}), nil) || !Front(nil, nil) || !Front(nil, three) || !Front([]api.Entry{}, nil) {
		t.Error("Front of none")
	}
	long := run(1, 1000, 3)
	if !Front(long[:999], long) || !Front(long, long) || Front(long, long[:999]) || Front(append(slices.Clone(long[:500]), e(1, 3)), long) {
		t.Error("Front of many")
	}
}

// Front asks for nothing but Eq: of what is no log likewise.
func TestP13_1FrontIsOfEqOnes(t *testing.T) {
	for _, x := range append(wrongOnes(), e(1, 1)) {
		if !Front(list(x, x), list(x, x, x)) || !Front(list(x), list(x)) || Front(list(x, x), list(x)) {
			t.Errorf("Front of %v and itself", x)
		}
		for i, f := range []func(x *api.Entry){
			func(x *api.Entry) { x.From ^= 1 << 32 }, func(x *api.Entry) { x.Boot ^= 1 << 41 }, func(x *api.Entry) { x.Seq ^= 1 }, func(x *api.Entry) { x.Order ^= 1 },
			func(x *api.Entry) { x.Level ^= 1 }, func(x *api.Entry) { x.Stamp ^= 1 }, func(x *api.Entry) { x.Data += "." },
		} {
			other := x
			f(&other)
			if Front(list(other), list(x)) || Front(list(x, other), list(x, x)) || Front(list(x, other), list(x, x, x)) || !Front(list(x, x), list(x, x, other)) {
				t.Errorf("%d: Front of %v and another one", i, x)
			}
		}
	}
}

// script does steps that r chooses, and holds the log against the model behind each.
func script(t *testing.T, next func(n int) int, steps int) {
	t.Helper()
	l, m := New(), model(nil)
	for range steps {
		was := slices.Clone(m)
		var got, want bool
		switch next(4) {
		case 0, 1:
			x := anyEntry(next, m)
			got = l.Add(x)
			m, want = m.add(x)
		case 2:
			at, es := anyPut(next, m)
			got = l.Put(at, es)
			m, want = m.put(at, es)
		case 3:
			x := anyEntry(next, m)
			got, want = l.Has(x), m.has(x)
		}
		if got != want {
			t.Fatalf("%v: %v; want %v", was, got, want)
		}
		checkLog(t, l, m)
		if next(80) == 0 {
			l, m = New(m...), model(l.From(0))
		}
	}
}

// anyEntry gives one near to what is there: often the last one's Stamp, seldom one that may not be.
func anyEntry(next func(n int) int, m model) api.Entry {
	if len(m) > 0 && next(6) == 0 {
		return m[next(len(m))]
	}
	stamp := int64(0)
	if len(m) > 0 {
		stamp = m[len(m)-1].Stamp
	}
	x := api.Entry{From: 1 + next(7), Boot: int64(1 + next(2)), Seq: int64(1 + next(12)), Order: next(3), Level: next(3), Stamp: stamp}
	switch next(12) {
	case 0:
		x.Stamp += int64(next(3))
	case 1:
		x.Stamp--
	case 2:
		x.Data = strings.Repeat("d", next(20))
	case 3:
		x.Seq = 0
	}
	return x
}

// anyPut gives a Put of some that are there and some that are not, and now and then turns a part of it.
func anyPut(next func(n int) int, m model) (int, []api.Entry) {
	at := next(len(m) + 1)
	es := slices.Clone(m[at : at+next(len(m)-at+1)])
	if at+len(es) == len(m) {
		longer := m
		for range next(4) {
			x := anyEntry(next, longer)
			longer, _ = longer.add(x)
			es = append(es, x)
		}
	}
	switch next(12) {
	case 0:
		at += next(5) - 2
	case 1:
		if len(es) > 0 {
			es[next(len(es))].Level = 0
		}
	}
	return at, es
}

func TestP13_1Scripts(t *testing.T) {
	for seed := range int64(60) {
		script(t, rand.New(rand.NewSource(seed)).Intn, 300)
	}
}

func TestP13_1NilLog(t *testing.T) {
	var l *Log
	checkLog(t, l, nil)
	for _, x := range []api.Entry{e(1, 1), {}} {
		if l.Add(x) || l.Has(x) || l.Put(0, list(x)) || l.Put(1, list(x)) {
			t.Errorf("a nil Log takes %v", x)
		}
	}
	if l.Put(0, nil) || l.Put(0, []api.Entry{}) || l.Put(-1, nil) || l.Put(1, nil) {
		t.Error("Put of a nil Log")
	}
	if got := l.From(0); len(got) != 0 {
		t.Errorf("From of a nil Log: %v", got)
	}
}

func TestP0_1ZeroLog(t *testing.T) {
	var l Log
	checkLog(t, &l, nil)
	if l.Has(api.Entry{}) || !l.Put(0, nil) || !l.Add(e(1, 1)) || !l.Put(0, list(e(1, 1), e(2, 2))) {
		t.Error("a zero Log")
	}
	checkLog(t, &l, list(e(1, 1), e(2, 2)))
}

func TestP0_1LongLists(t *testing.T) {
	long := run(1, 1<<20, 1)
	if l := New(long...); l.Len() != 60 || l.Put(0, long) || l.Put(60, long) || l.Len() != 60 {
		t.Errorf("a long list: %d", l.Len())
	}
	if l := New(); l.Put(0, long) || l.Len() != 0 {
		t.Errorf("Put of a long list: %d", l.Len())
	}
	x := e(1, 1)
	x.Data = strings.Repeat("x", 1<<20)
	if l := New(x); l.Len() != 0 || l.Has(x) || l.Put(0, list(x)) || !Front(list(x), list(x)) {
		t.Error("a long Data")
	}
}

func TestP0_3ArgumentsStayAsTheyAre(t *testing.T) {
	for _, n := range []int{0, 1, 2, 3} {
		given := list(e(1, 1), e(2, 2), api.Entry{}, e(3, 1), e(4, 9))
		was := slices.Clone(given)
		l := New(given[:n]...)
		l.Add(e(7, 20))
		l.Put(0, given[:n])
		l.Put(l.Len(), given[n:n+1])
		l.Put(l.Len(), given[4:])
		Front(given[:n], given)
		Front(given, given[:n])
		if !slices.Equal(given, was) {
			t.Errorf("%v is %v now", was, given)
		}
	}
}

// A list that was handed in is no part of the log, its spare room neither.
func TestP0_3ArgumentsAreNotKept(t *testing.T) {
	given := append(make([]api.Entry, 0, 20), e(1, 1), e(2, 2))
	l := New(given...)
	clearAll(given)
	checkLog(t, l, list(e(1, 1), e(2, 2)))
	more := append(make([]api.Entry, 0, 20), e(3, 3), e(4, 4))
	if !l.Put(2, more) {
		t.Fatal("Put")
	}
	clearAll(more)
	if !l.Add(e(5, 5)) || more[:3][2] != (api.Entry{}) {
		t.Error("Add writes into a list that was handed in")
	}
	checkLog(t, l, list(e(1, 1), e(2, 2), e(3, 3), e(4, 4), e(5, 5)))
}

func TestP0_3AnswersAreNewMemory(t *testing.T) {
	want := run(1, 5, 3)
	l := New(want...)
	for at := range 6 {
		a, b := l.From(at), l.From(at)
		clearAll(a)
		if !slices.Equal(b, want[at:]) {
			t.Errorf("From(%d): two answers share memory", at)
		}
		clearAll(b)
		checkLog(t, l, want)
	}
	held := l.From(2)
	l.Add(e(6, 4))
	l.Put(6, list(e(7, 4)))
	if !slices.Equal(held, want[2:]) {
		t.Errorf("From(2) is %v now", held)
	}
	held = append(held, e(50, 50))
	checkLog(t, l, append(run(1, 5, 3), e(6, 4), e(7, 4)))
}

// clearAll writes into a list, its spare room too.
func clearAll(l []api.Entry) { clear(l[:cap(l)]) }

func TestP0_4NilIsEmpty(t *testing.T) {
	var none []api.Entry
	checkLog(t, New(none...), nil)
	checkLog(t, New([]api.Entry{}...), nil)
	for at := -1; at <= 3; at++ {
		l := New(e(1, 1), e(2, 2))
		if l.Put(at, nil) != l.Put(at, []api.Entry{}) {
			t.Errorf("Put(%d) of nil and of an empty list", at)
		}
	}
	if Front(nil, nil) != Front([]api.Entry{}, []api.Entry{}) || Front(list(e(1, 1)), nil) != Front(list(e(1, 1)), []api.Entry{}) || New() == nil {
		t.Error("Front, New")
	}
}

func TestP0_5LogsAreTheirOwn(t *testing.T) {
	a, b := New(e(1, 1)), New(e(1, 1))
	if !a.Add(e(2, 5)) || !b.Put(1, list(e(3, 2), e(2, 3))) || a.Has(e(3, 2)) {
		t.Error("Add and Put")
	}
	c := New(a.From(0)...)
	if !c.Add(e(9, 9)) {
		t.Error("Add of a copy")
	}
	checkLog(t, a, list(e(1, 1), e(2, 5)))
	checkLog(t, b, list(e(1, 1), e(3, 2), e(2, 3)))
	checkLog(t, c, list(e(1, 1), e(2, 5), e(9, 9)))
}

func FuzzLog(f *testing.F) {
	f.Add([]byte{})
	f.Add([]byte("\x00\x01\x02\x03\x04\x05\x06\x07\x08\x09\x0a"))
	f.Add([]byte("the quick brown fox jumps over the lazy dog"))
	f.Fuzz(func(t *testing.T, b []byte) {
		next := func(n int) int {
			if len(b) == 0 {
				return 0
			}
			c := int(b[0])
			b = b[1:]
			return c % n
		}
		script(t, next, min(200, len(b)/4+1))
	})
}
