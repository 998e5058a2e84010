package ready

import (
	"math"
	"math/big"
	"math/rand"
	"slices"
	"strings"
	"testing"

	"curfew/api"
	"curfew/entry"
)

// model is what was told, by the words of the chapter: all is asked anew each time.
type model []api.Told

func (m model) has(e api.Entry) bool {
	for _, x := range m {
		if entry.Same(x.E, e) {
			return true
		}
	}
	return false
}

func (m model) hasAll(l []api.Entry, counts func(e api.Entry) bool) bool {
	for _, e := range l {
		if counts(e) && !m.has(e) {
			return false
		}
	}
	return true
}

func isHeldLongEnough(stamp, now int64) bool {
	return big.NewInt(now).Cmp(new(big.Int).Add(big.NewInt(stamp), big.NewInt(3))) >= 0
}

func (m model) level(l []api.Entry, at, commit int) bool {
	switch l[at-1].Level {
	case 0:
		return true
	case 1:
		return commit >= at
	case 2:
		return commit >= at && m.hasAll(l[:at-1], func(api.Entry) bool { return true })
	}
	return false
}

func (m model) order(l []api.Entry, at int, now int64) bool {
	switch l[at-1].Order {
	case 0:
		return true
	case 1:
		return m.hasAll(l[:at-1], func(e api.Entry) bool { return e.Order == 1 })
	case 2:
		return isHeldLongEnough(l[at-1].Stamp, now) && m.hasAll(l[:at-1], func(e api.Entry) bool { return e.Order == 2 })
	}
	return false
}

func (m model) may(l []api.Entry, at, commit int, now int64) bool {
	return !m.has(l[at-1]) && m.level(l, at, commit) && m.order(l, at, now)
}

// run gives the model behind Go: each time the least place that may be told is.
func (m model) run(l []api.Entry, commit int, now int64) model {
	l = l[:min(len(l), 60)]
	commit = max(0, min(commit, len(l)))
	m = slices.Clip(slices.Clone(m))
	for at := 1; at <= len(l); at++ {
		if m.may(l, at, commit, now) {
			m = append(m, api.Told{At: at, E: l[at-1]})
			at = 0
		}
	}
	return m
}

func e(seq int64, order, level int) api.Entry {
	return api.Entry{From: 1, Boot: 1, Seq: seq, Order: order, Level: level}
}

// stamped gives a Timed one, Weak.
func stamped(seq, stamp int64) api.Entry {
	return api.Entry{From: 1, Boot: 1, Seq: seq, Order: 2, Stamp: stamp}
}

func list(l ...api.Entry) []api.Entry { return l }

// told gives those of l at the places.
func told(l []api.Entry, places ...int) []api.Told {
	var ts []api.Told
	for _, at := range places {
		ts = append(ts, api.Told{At: at, E: l[at-1]})
	}
	return ts
}

func wantGo(t *testing.T, q *Queue, l []api.Entry, commit int, now int64, places ...int) {
	t.Helper()
	want := told(l, places...)
	if got := q.Go(l, commit, now); !slices.Equal(got, want) {
		t.Fatalf("Go(%v, %d, %d): %v; want %v", l, commit, now, got, want)
	}
}

func wantTold(t *testing.T, q *Queue, want []api.Told) {
	t.Helper()
	if got := q.Told(); !slices.Equal(got, want) {
		t.Fatalf("Told: %v; want %v", got, want)
	}
	for _, x := range want {
		if !q.Has(x.E) {
			t.Fatalf("Has(%v): false", x.E)
		}
	}
}

func TestP14_1Levels(t *testing.T) {
	l := list(e(1, 0, 0), e(2, 0, 1), e(3, 0, 2))
	for _, c := range []struct {
		commit int
		places []int
	}{{math.MinInt, []int{1}}, {-1, []int{1}}, {0, []int{1}}, {1, []int{1}}, {2, []int{1, 2}}, {3, []int{1, 2, 3}}, {4, []int{1, 2, 3}}, {1 << 32, []int{1, 2, 3}}, {math.MaxInt, []int{1, 2, 3}}} {
		q := New()
		wantGo(t, q, l, c.commit, 0, c.places...)
		wantTold(t, q, told(l, c.places...))
	}
}

// Strict waits for all ahead of it, of whichever level and order; Strong for none.
func TestP14_1StrictWaitsForAll(t *testing.T) {
	for order := range 3 {
		// A Timed one is not told yet, and a Strong one ahead of commit is; so is a Total one that waits for neither.
		l := list(stamped(1, 7), api.Entry{From: 1, Boot: 1, Seq: 2, Order: order, Level: 2}, api.Entry{From: 1, Boot: 1, Seq: 3, Order: 0, Level: 1})
		q := New()
		wantGo(t, q, l, 3, 9, 3)
		wantGo(t, q, l, 3, 10, 1, 2)
		wantGo(t, q, l, 3, 10)
	}
	q := New()
	l := list(e(1, 0, 0), e(2, 0, 1), e(3, 0, 2), e(4, 0, 2), e(5, 0, 0))
	wantGo(t, q, l, 0, 0, 1, 5)
	wantGo(t, q, l, 1, 0)
	wantGo(t, q, l, 2, 0, 2)
	wantGo(t, q, l, 3, 0, 3)
	wantGo(t, q, l, 4, 0, 4)
	wantTold(t, q, told(l, 1, 5, 2, 3, 4))
}

// One at a place is committed when commit is the place; those behind it may be Strong, too, without it.
func TestP14_1StrongWaitsForNone(t *testing.T) {
	l := list(stamped(1, 50), stamped(2, 50), e(3, 0, 1), e(4, 1, 1), e(5, 0, 2), e(6, 1, 1), e(7, 1, 2), e(8, 1, 1))
	q := New()
	wantGo(t, q, l, 2, 0)
	wantGo(t, q, l, 3, 0, 3)
	wantGo(t, q, l, 4, 0, 4)
	wantGo(t, q, l, 8, 0, 6)
	wantGo(t, q, l, 8, 53, 1, 2, 5, 7, 8)
}

func TestP14_1Total(t *testing.T) {
	l := list(e(1, 1, 0), e(2, 0, 1), e(3, 1, 1), e(4, 1, 0), e(5, 0, 0), stamped(6, 0), e(7, 1, 0))
	q := New()
	wantGo(t, q, l, 0, 0, 1, 5)
	wantGo(t, q, l, 2, 0, 2)
	wantGo(t, q, l, 2, 3, 6)
	wantGo(t, q, l, 3, 3, 3, 4, 7)
	wantTold(t, q, told(l, 1, 5, 2, 6, 3, 4, 7))
}

// Of those ahead only the Total ones count for Total: neither an Any nor a Timed one that waits does.
func TestP14_1TotalWaitsForTotalOnly(t *testing.T) {
	l := list(e(1, 0, 1), stamped(2, 99), e(3, 0, 2), e(4, 1, 0))
	wantGo(t, New(), l, 0, 0, 4)
	for level := 1; level <= 2; level++ {
		l := list(e(1, 1, level), e(2, 0, 0), e(3, 1, 0))
		q := New()
		wantGo(t, q, l, 0, 0, 2)
		wantGo(t, q, l, 1, 0, 1, 3)
	}
}

func TestP14_1TimedIsHeld(t *testing.T) {
	for _, stamp := range []int64{0, 1, 5, -1, -2, -3, -4, 1 << 31, 1 << 32, 1<<40 - 3, 1 << 40, -1 << 40, math.MaxInt64 - 6, math.MaxInt64 - 4, math.MaxInt64 - 3, math.MaxInt64 - 2, math.MaxInt64 - 1, math.MaxInt64, math.MinInt64, math.MinInt64 + 1, math.MinInt64 + 3, math.MinInt64 + 4} {
		nows := []int64{math.MinInt64, math.MinInt64 + 1, math.MinInt64 + 2, math.MinInt64 + 3, math.MinInt64 + 4, -1, 0, 1, 2, 3, 4, math.MaxInt64 - 3, math.MaxInt64 - 2, math.MaxInt64 - 1, math.MaxInt64}
		for d := int64(-5); d <= 5; d++ {
			nows = append(nows, stamp+d)
		}
		for _, now := range nows {
			l := list(stamped(1, stamp))
			var places []int
			if isHeldLongEnough(stamp, now) {
				places = []int{1}
			}
			wantGo(t, New(), l, 0, now, places...)
			l = list(api.Entry{From: 1, Boot: 1, Seq: 1, Order: 0, Stamp: stamp}, api.Entry{From: 1, Boot: 1, Seq: 2, Order: 1, Stamp: stamp})
			wantGo(t, New(), l, 0, now, 1, 2)
		}
	}
}

// A Timed one waits for the Timed ones ahead alone, though it was held itself.
func TestP14_1TimedWaitsForTimedOnly(t *testing.T) {
	late := stamped(2, 5)
	late.Level = 1
	l := list(e(1, 1, 1), late, stamped(3, 5), stamped(4, 6), e(5, 0, 0), stamped(6, 2))
	q := New()
	wantGo(t, q, l, 0, 7, 5)
	wantGo(t, q, l, 1, 8, 1)
	wantGo(t, q, l, 2, 8, 2, 3)
	wantGo(t, q, l, 2, 9, 4, 6)
	wantGo(t, New(), list(e(1, 0, 1), e(2, 1, 1), e(3, 1, 2), stamped(4, 0)), 0, 3, 4)
}

// What is told counts in the same Go for those behind it, however many there are.
func TestP14_1EachAsSoonAsItMay(t *testing.T) {
	var l []api.Entry
	var places []int
	for i := range 60 {
		l = append(l, api.Entry{From: 1 + i%7, Boot: 3, Seq: int64(i + 1), Order: i % 3, Level: 2, Stamp: 4})
		places = append(places, i+1)
	}
	q := New()
	wantGo(t, q, l, 60, 6, 1, 2)
	wantGo(t, q, l, 60, 7, places[2:]...)
	wantGo(t, q, l, 60, 7)
	wantTold(t, q, told(l, places...))
}

func TestP14_1AtMostSixtyCount(t *testing.T) {
	var l []api.Entry
	var places []int
	for i := range 70 {
		l = append(l, e(int64(i+1), i%2, i%3))
		places = append(places, i+1)
	}
	q := New()
	wantGo(t, q, l, 1000, 0, places[:60]...)
	wantGo(t, q, l, 1000, 0)
	if q.Has(l[60]) || !q.Has(l[59]) {
		t.Error("Has about the sixtieth")
	}
	wantGo(t, q, l[1:], 1000, 0, 60)
	wantTold(t, q, append(told(l, places[:60]...), api.Told{At: 60, E: l[60]}))
	// What stands behind the sixtieth makes none tellable, and none untellable.
	wantGo(t, New(), append(slices.Repeat(list(e(1, 0, 1)), 60), e(1, 0, 0)), 0, 0)
}

// One that was told counts wherever it stands later, and whatever it says there.
func TestP14_1AnotherLog(t *testing.T) {
	q := New()
	first := list(e(1, 1, 0), stamped(2, 0), e(3, 0, 1))
	wantGo(t, q, first, 0, 3, 1, 2)
	l := list(e(10, 0, 0), e(2, 1, 2), e(11, 1, 0), stamped(1, 90), stamped(12, 0), e(13, 0, 2), e(3, 0, 2))
	wantGo(t, q, l, 5, 3, 1, 3, 5)
	wantGo(t, q, l, 6, 3, 6)
	wantGo(t, q, first, 2, 3)
	wantGo(t, q, first, 3, 3, 3)
	wantGo(t, q, l, 7, 99)
	wantTold(t, q, slices.Concat(told(first, 1, 2), told(l, 1, 3, 5, 6), told(first, 3)))
}

// A log that is shorter, empty or another one takes nothing back.
func TestP14_1WhatWasToldStays(t *testing.T) {
	q := New()
	l := list(e(1, 0, 0), e(2, 0, 0), e(3, 1, 1))
	wantGo(t, q, l, 3, 0, 1, 2, 3)
	for _, x := range [][]api.Entry{nil, {}, l[:1], l[1:], slices.Concat(l[2:], l[:2])} {
		wantGo(t, q, x, 3, 0)
		wantGo(t, q, x, -3, -9)
		wantTold(t, q, told(l, 1, 2, 3))
	}
	wantGo(t, q, list(e(3, 1, 1), e(4, 1, 1)), 2, 0, 2)
}

// Of one list: what is told at the least place that may be, is not at another one.
func TestP14_1SameOnesInOneList(t *testing.T) {
	for _, c := range []struct {
		l      []api.Entry
		commit int
		places []int
	}{
		{list(e(1, 0, 0), e(1, 0, 0)), 0, []int{1}},
		{list(e(1, 0, 0), e(1, 1, 1), e(2, 1, 0)), 3, []int{1, 3}},
		{list(e(1, 0, 1), e(1, 0, 0)), 0, []int{2}},
		{list(e(1, 0, 1), e(1, 0, 0)), 1, []int{1}},
		{list(e(1, 1, 1), e(1, 0, 0), e(2, 1, 0)), 0, []int{2, 3}},
		{list(e(1, 0, 1), e(1, 0, 0), e(2, 0, 2)), 3, []int{1, 3}},
		// The one that the second waits for is told behind it: then the second may.
		{list(e(1, 1, 1), e(2, 1, 0), e(1, 0, 0)), 0, []int{3, 2}},
		{list(e(1, 1, 1), e(2, 1, 0), e(1, 0, 0), e(3, 0, 0)), 0, []int{3, 2, 4}},
		{list(e(9, 0, 0), e(1, 1, 1), e(2, 1, 0), e(3, 1, 0), e(1, 0, 0), e(4, 1, 0), e(5, 0, 0)), 0, []int{1, 5, 3, 4, 6, 7}},
	} {
		q := New()
		wantGo(t, q, c.l, c.commit, 0, c.places...)
		wantGo(t, q, c.l, c.commit, 0)
		wantTold(t, q, told(c.l, c.places...))
	}
}

// Has is by what Same asks, and by nothing else.
func TestP14_1HasIsOfSameOnes(t *testing.T) {
	x := api.Entry{From: 2, Boot: 3, Seq: 4, Order: 1, Level: 0, Stamp: 5, Data: "data"}
	fields := []func(y *api.Entry, d int64){
		func(y *api.Entry, d int64) { y.From ^= int(d) }, func(y *api.Entry, d int64) { y.Boot ^= d }, func(y *api.Entry, d int64) { y.Seq ^= d }, func(y *api.Entry, d int64) { y.Order ^= int(d) },
		func(y *api.Entry, d int64) { y.Level ^= int(d) }, func(y *api.Entry, d int64) { y.Stamp ^= d }, func(y *api.Entry, d int64) { y.Data += "." }, func(y *api.Entry, d int64) { y.Data = "" },
		func(y *api.Entry, d int64) { y.From, y.Boot = y.From^int(d), y.Boot^d }, func(y *api.Entry, d int64) { y.Boot, y.Seq = y.Seq, y.Boot },
		func(y *api.Entry, d int64) { y.Boot, y.Seq = y.Boot^d, y.Seq^d }, func(y *api.Entry, d int64) { *y = api.Entry{} }, func(y *api.Entry, d int64) {},
	}
	for i, f := range fields {
		for _, d := range []int64{1, 2, 8, 1 << 31, 1 << 32, 1 << 40, 1 << 62, math.MinInt64, -1} {
			other := x
			f(&other, d)
			q := New()
			wantGo(t, q, list(x), 0, 0, 1)
			if got, want := q.Has(other), entry.Same(x, other); got != want {
				t.Errorf("%d, %d: Has(%v): %v", i, d, other, got)
			}
			other.Order, other.Level = 0, 0
			var places []int
			if !entry.Same(x, other) {
				places = []int{1}
			}
			wantGo(t, q, list(other), 0, 0, places...)
		}
	}
	if q := New(); q.Has(x) || q.Has(api.Entry{}) {
		t.Error("Has of a new Queue")
	}
}

// What is told is the one that stands there, not one that is Same to it.
func TestP14_1ToldIsWhatStandsThere(t *testing.T) {
	l := list(api.Entry{From: 3, Boot: 1 << 40, Seq: 9, Order: 2, Level: 2, Stamp: 1, Data: "\xff\x00"}, api.Entry{From: 3, Boot: 1 << 40, Seq: 9, Stamp: 7, Data: "b"})
	q := New()
	wantGo(t, q, l, 0, 4, 2)
	wantTold(t, q, told(l, 2))
	q = New()
	wantGo(t, q, l, 1, 4, 1)
	wantTold(t, q, told(l, 1))
}

// An Order or a Level that is none may never be told; it is waited for as any other.
func TestP14_1WrongOrdersAndLevels(t *testing.T) {
	for _, n := range []int{math.MinInt, -1 << 32, -1, 3, 4, 1 << 32, 1<<32 + 1, math.MaxInt} {
		for good := range 3 {
			for _, x := range []api.Entry{e(1, n, good), e(1, good, n), e(1, n, n)} {
				q := New()
				wantGo(t, q, list(x), 1, 99)
				if q.Has(x) {
					t.Errorf("Has(%v)", x)
				}
				l := list(x, e(2, 0, 1), e(3, 0, 2), e(4, 1, 1), stamped(5, 0))
				want := model{}.run(l, 5, 99)
				if got := q.Go(l, 5, 99); !slices.Equal(got, want) || q.Has(e(3, 0, 2)) || q.Has(e(4, 1, 1)) != (x.Order != 1) || q.Has(stamped(5, 0)) != (x.Order != 2) {
					t.Errorf("Go(%v): %v; want %v", l, got, want)
				}
			}
		}
	}
}

// Whether an entry may be (entry.May) is not asked.
func TestP14_1EntriesThatMayNotBe(t *testing.T) {
	for _, x := range []api.Entry{{}, {From: -1, Boot: math.MinInt64, Seq: math.MaxInt64}, {From: 8, Boot: 1, Seq: 1, Order: 1, Stamp: -5}, {From: 1, Boot: 1, Seq: 1, Data: strings.Repeat("x", 1<<20)}} {
		q := New()
		wantGo(t, q, list(x, x), 0, 0, 1)
		wantTold(t, q, told(list(x), 1))
	}
}

// script goes on with logs that r chooses, and holds the queue against the model behind each Go.
func script(t *testing.T, next func(n int) int, steps int) {
	t.Helper()
	q, m := New(), model(nil)
	var l []api.Entry
	commit, now := 0, int64(0)
	for range steps {
		l = anyList(next, l)
		commit += next(4) - next(2)
		now += int64(next(3))
		asked := commit
		switch next(15) {
		case 0:
			asked = next(130) - 30
		case 1:
			commit = 0
		}
		was := m
		m = m.run(l, asked, now)
		if got := q.Go(l, asked, now); !slices.Equal(got, m[len(was):]) {
			t.Fatalf("Go(%v, %d, %d) behind %v: %v; want %v", l, asked, now, was, got, m[len(was):])
		}
		wantTold(t, q, m)
		x := anyEntry(next)
		if got := q.Has(x); got != m.has(x) {
			t.Fatalf("Has(%v) behind %v: %v", x, m, got)
		}
	}
}

// anyEntry gives one of few broadcasts, seldom with an Order or a Level that is none.
func anyEntry(next func(n int) int) api.Entry {
	x := api.Entry{From: 1 + next(3), Boot: int64(1 + next(2)), Seq: int64(1 + next(25)), Order: next(3), Level: next(3), Stamp: int64(next(40))}
	switch next(40) {
	case 0:
		x.Order = next(6) - 2
	case 1:
		x.Level = next(6) - 2
	}
	return x
}

// anyList gives the list again and more behind it, and now and then another one.
func anyList(next func(n int) int, l []api.Entry) []api.Entry {
	l = slices.Clone(l)
	switch next(20) {
	case 0:
		l = l[:next(len(l)+1)]
	case 1:
		slices.Reverse(l)
	}
	for range next(5) {
		if len(l) < 64 {
			l = append(l, anyEntry(next))
		}
	}
	return l
}

func TestP14_1Scripts(t *testing.T) {
	for seed := range int64(150) {
		script(t, rand.New(rand.NewSource(seed)).Intn, 60)
	}
}

// All lists of up to three entries, each of one of two broadcasts, at each commit, first while they are held and then when they no longer are.
func TestP14_1ShortLists(t *testing.T) {
	var all []api.Entry
	for seq := range int64(2) {
		for order := range 3 {
			for level := range 3 {
				all = append(all, e(1+seq, order, level))
			}
		}
	}
	var tryAll func(l []api.Entry)
	tryAll = func(l []api.Entry) {
		for commit := range len(l) + 1 {
			q, m := New(), model(nil)
			for _, now := range []int64{2, 3} {
				was := m
				m = m.run(l, commit, now)
				if got := q.Go(l, commit, now); !slices.Equal(got, m[len(was):]) {
					t.Fatalf("Go(%v, %d, %d) behind %v: %v; want %v", l, commit, now, was, got, m[len(was):])
				}
			}
		}
		if len(l) < 3 {
			for _, x := range all {
				tryAll(append(slices.Clone(l), x))
			}
		}
	}
	tryAll(nil)
}

func TestP14_1NilQueue(t *testing.T) {
	var q *Queue
	l := list(e(1, 0, 0), e(2, 1, 1))
	for range 2 {
		wantGo(t, q, l, 2, 9)
		wantGo(t, q, nil, 0, 0)
		wantTold(t, q, nil)
		if q.Has(l[0]) || q.Has(api.Entry{}) {
			t.Error("Has of a nil Queue")
		}
	}
}

func TestP0_1ZeroQueue(t *testing.T) {
	var q Queue
	l := list(e(1, 0, 0), e(2, 1, 1))
	wantTold(t, &q, nil)
	if q.Has(l[0]) || q.Has(api.Entry{}) {
		t.Error("Has of a zero Queue")
	}
	wantGo(t, &q, nil, 0, 0)
	wantGo(t, &q, l, 2, 0, 1, 2)
	wantTold(t, &q, told(l, 1, 2))
}

func TestP0_1LongLists(t *testing.T) {
	long := make([]api.Entry, 1<<20)
	for i := range long {
		long[i] = e(int64(i+1), 1, 2)
	}
	if got := New().Go(long, math.MaxInt, math.MaxInt64); len(got) != 60 {
		t.Errorf("a long list: %d", len(got))
	}
	// Of very many that were told none is gone through: else this would take minutes.
	q := New()
	for i := 0; i+60 <= 300000; i += 60 {
		if got := q.Go(long[i:i+60], 60, 0); len(got) != 60 {
			t.Fatalf("from %d: %d", i, len(got))
		}
	}
	if got := q.Told(); len(got) != 300000 || got[299999] != (api.Told{At: 60, E: long[299999]}) || q.Has(long[300000]) || !q.Has(long[0]) {
		t.Errorf("Told: %d", len(got))
	}
}

func TestP0_3ArgumentsStayAsTheyAre(t *testing.T) {
	given := list(e(1, 1, 1), e(2, 1, 0), e(1, 0, 0), e(3, 2, 2), e(4, 0, 1))
	was := slices.Clone(given)
	for n := range len(given) + 1 {
		for commit := range 7 {
			q := New()
			q.Go(given[:n], commit, 9)
			q.Go(given[n:], commit, 9)
			if !slices.Equal(given, was) {
				t.Fatalf("%v is %v now", was, given)
			}
		}
	}
}

func TestP0_3ArgumentsAreNotKept(t *testing.T) {
	given := append(make([]api.Entry, 0, 20), e(1, 1, 0), e(2, 1, 0))
	want := told(given, 1, 2)
	q := New()
	got := q.Go(given, 0, 0)
	clearAll(given)
	if !slices.Equal(got, want) {
		t.Errorf("Go: %v hangs on the list that was handed in", got)
	}
	wantTold(t, q, want)
	more := list(e(1, 1, 0), e(2, 1, 0), e(3, 1, 0))
	wantGo(t, q, more, 0, 0, 3)
	if !slices.Equal(given[:20], make([]api.Entry, 20)) {
		t.Error("Go writes into a list that was handed in earlier")
	}
}

func TestP0_3AnswersAreNewMemory(t *testing.T) {
	l := list(e(1, 0, 0), e(2, 0, 1), e(3, 0, 1), e(4, 0, 1))
	q := New()
	first := q.Go(l, 0, 0)
	second := q.Go(l, 3, 0)
	clearAll(first)
	if !slices.Equal(second, told(l, 2, 3)) {
		t.Errorf("Go: two answers share memory: %v", second)
	}
	wantTold(t, q, told(l, 1, 2, 3))
	clearAll(second)
	wantTold(t, q, told(l, 1, 2, 3))
	a, b := q.Told(), q.Told()
	clearAll(a)
	if !slices.Equal(b, told(l, 1, 2, 3)) {
		t.Errorf("Told: two answers share memory: %v", b)
	}
	wantTold(t, q, told(l, 1, 2, 3))
	wantGo(t, q, l, 4, 0, 4)
	if !slices.Equal(b, told(l, 1, 2, 3)) {
		t.Errorf("Told: %v behind a later Go", b)
	}
	spare := append(b, api.Told{At: 9})
	wantTold(t, q, told(l, 1, 2, 3, 4))
	if spare[3].At != 9 {
		t.Error("Told: a later Go writes into its spare room")
	}
	clearAll(q.Go(l, 4, 0))
	wantTold(t, q, told(l, 1, 2, 3, 4))
}

// clearAll writes into a list, its spare room too.
func clearAll[T any](l []T) { clear(l[:cap(l)]) }

func TestP0_4NilIsEmpty(t *testing.T) {
	for _, l := range [][]api.Entry{nil, {}, make([]api.Entry, 0, 9)} {
		for _, commit := range []int{-1, 0, 1, math.MaxInt, math.MinInt} {
			q := New()
			wantGo(t, q, l, commit, math.MaxInt64)
			wantTold(t, q, nil)
		}
	}
	if New() == nil {
		t.Error("New: nil")
	}
}

func TestP0_5QueuesAreTheirOwn(t *testing.T) {
	l := list(e(1, 1, 0), e(2, 1, 1))
	a, b := New(), New()
	wantGo(t, a, l, 2, 0, 1, 2)
	if b.Has(l[0]) {
		t.Error("Has of what another Queue told")
	}
	wantTold(t, b, nil)
	wantGo(t, b, l, 0, 0, 1)
	wantTold(t, a, told(l, 1, 2))
	wantTold(t, b, told(l, 1))
}

func FuzzReady(f *testing.F) {
	f.Add([]byte{})
	f.Add([]byte("\x00\x01\x02\x03\x04\x05\x06\x07\x08\x09\x0a"))
	f.Add([]byte("the quick brown fox jumps over the lazy dog"))
	f.Fuzz(func(t *testing.T, b []byte) {
		next := func(n int) int {
			if len(b) == 0 {
				return 0
			}
			c := int(b[0])
			b = b[1:]
			return c % n
		}
		script(t, next, min(60, len(b)/8+1))
	})
}
