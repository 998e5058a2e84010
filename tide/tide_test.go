package tide

import (
	"math"
	"math/rand"
	"testing"

	"curfew/cross"
)

const (
	greatest = int64(1) << 40 // of times
	allTicks = int64(1) << 20 // that may go by at once
)

// state is what a Tide shows, and its lag.
type state struct {
	now, lag int64
}

func of(t *Tide) state { return state{t.Now(), t.Lag()} }

// shownAt gives a Tide in a state: one that showed too much.
func shownAt(s state) *Tide {
	t := New(s.now)
	t.Right(cross.Range{Low: s.now - s.lag, High: s.now - s.lag})
	return t
}

func isNoTime(a int64) bool { return a < -greatest || a > greatest }

// noTimes are those next to the bounds, and those that a narrower number would take for good ones, or that wrap when reckoned with.
func noTimes() []int64 {
	l := []int64{1 << 41, -1 << 41, 1 << 48, 1<<48 + 3, 1 << 62, -1 << 62}
	for d := range int64(4) {
		l = append(l, greatest+1+d, -greatest-1-d, math.MaxInt64-d, math.MinInt64+d)
	}
	return l
}

// noTicks are numbers of ticks that don't go by.
func noTicks() []int64 {
	l := append(noTimes(), 1<<21, 1<<31, 1<<32, 1<<32+1, -1<<31, -1<<32, -1<<32+5, -1<<20, greatest)
	for d := range int64(5) {
		l = append(l, -1-d, allTicks+1+d)
	}
	return l
}

// ranges are some that have times, at v, about it and far from it, and at the last times.
func ranges(v int64) []cross.Range {
	var l []cross.Range
	ends := []int64{-greatest, -greatest + 1, -7, 0, v - 9, v - 1, v, v + 1, v + 9, greatest - 1, greatest}
	for _, low := range ends {
		for _, high := range ends {
			if low <= high && !isNoTime(low) && !isNoTime(high) {
				l = append(l, cross.Range{Low: low, High: high})
			}
		}
	}
	return l
}

// wrongRanges have no times, or an end that is none.
func wrongRanges() []cross.Range {
	l := []cross.Range{{Low: 1, High: 0}, {Low: 9, High: 8}, {Low: 200, High: 100}, {Low: greatest, High: -greatest}, {Low: 0, High: -1}, {Low: greatest, High: greatest - 1}, {Low: 1 - greatest, High: -greatest}}
	for _, a := range noTimes() {
		for _, b := range []int64{-greatest, -5, 0, 100, greatest} {
			l = append(l, cross.Range{Low: a, High: b}, cross.Range{Low: b, High: a})
		}
		for _, b := range noTimes() {
			l = append(l, cross.Range{Low: a, High: b})
		}
	}
	return l
}

// model keeps a clock by the words of the chapter.
type model struct {
	state
}

func newModel(now int64) *model {
	if now < 0 || isNoTime(now) {
		now = 0
	}
	return &model{state{now: now}}
}

func (m *model) goOn(n int64) int64 {
	if n < 0 || n > allTicks {
		return m.now
	}
	on := n
	if m.lag > 0 {
		on = max(n/2, n-m.lag)
		m.lag -= n - on
	}
	m.now += on
	if m.now > greatest {
		m.now = greatest
	}
	return m.now
}

func (m *model) right(to cross.Range) int64 {
	switch {
	case to.Low > to.High || isNoTime(to.Low) || isNoTime(to.High):
	case cross.Count([]cross.Range{to}, m.now) == 1:
		m.lag = 0
	case m.now < to.Low:
		m.now, m.lag = to.Low, 0
	default:
		m.lag = m.now - to.High
	}
	return m.now
}

// pair is a clock and its model, which are told the same.
type pair struct {
	t *testing.T
	c *Tide
	m *model
}

func newPair(t *testing.T, now int64) pair { return pair{t, New(now), newModel(now)} }

func (p pair) goOn(n int64) {
	p.t.Helper()
	was := p.m.state
	if got, want := p.c.Go(n), p.m.goOn(n); got != want {
		p.t.Errorf("%+v: Go(%d): %d; want %d", was, n, got, want)
	}
	p.check(was)
}

func (p pair) right(to cross.Range) {
	p.t.Helper()
	was := p.m.state
	if got, want := p.c.Right(to), p.m.right(to); got != want {
		p.t.Errorf("%+v: Right(%+v): %d; want %d", was, to, got, want)
	}
	p.check(was)
}

// check holds all that a clock tells against the model, and what it never does against what was.
func (p pair) check(was state) {
	p.t.Helper()
	got := of(p.c)
	if got != p.m.state {
		p.t.Errorf("from %+v: %+v; want %+v", was, got, p.m.state)
	}
	if got.now < was.now || got.now > greatest || got.lag < 0 {
		p.t.Errorf("from %+v: %+v", was, got)
	}
}

// checkGo tells a clock that so many ticks went by.
func checkGo(t *testing.T, from state, n int64, want state) {
	t.Helper()
	c := shownAt(from)
	if of(c) != from {
		t.Fatalf("%+v; want %+v", of(c), from)
	}
	if now := c.Go(n); now != want.now || of(c) != want {
		t.Errorf("%+v: Go(%d): %d, %+v; want %+v", from, n, now, of(c), want)
	}
}

func checkRight(t *testing.T, from state, to cross.Range, want state) {
	t.Helper()
	c := shownAt(from)
	if now := c.Right(to); now != want.now || of(c) != want {
		t.Errorf("%+v: Right(%+v): %d, %+v; want %+v", from, to, now, of(c), want)
	}
}

func TestP11_1New(t *testing.T) {
	for _, now := range []int64{0, 1, 2, 100, 1 << 31, 1 << 32, 1<<32 + 5, greatest - 1, greatest} {
		if got := of(New(now)); got != (state{now: now}) {
			t.Errorf("New(%d): %+v", now, got)
		}
	}
	for _, now := range append(noTimes(), -1, -2, -100, -1<<31, -1<<32, 1-greatest, -greatest) {
		if got := of(New(now)); got != (state{}) {
			t.Errorf("New(%d): %+v; want 0", now, got)
		}
	}
}

func TestP11_1Go(t *testing.T) {
	for _, now := range []int64{0, 1, 105, 1 << 32, greatest - allTicks} {
		for _, n := range []int64{0, 1, 2, 3, 7, 1000, allTicks - 1, allTicks} {
			checkGo(t, state{now, 0}, n, state{now + n, 0})
		}
	}
}

func TestP11_1GoOfALag(t *testing.T) {
	for _, x := range []struct {
		lag, n, on, left int64
	}{
		{10, 0, 0, 10}, {10, 1, 0, 9}, {10, 2, 1, 9}, {10, 3, 1, 8}, {10, 4, 2, 8}, {10, 5, 2, 7}, {10, 6, 3, 7},
		// What is left out reaches the lag, or is one more or less.
		{10, 18, 9, 1}, {10, 19, 9, 0}, {10, 20, 10, 0}, {10, 21, 11, 0}, {10, 22, 12, 0}, {10, 1000, 990, 0}, {10, allTicks, allTicks - 10, 0},
		{1, 0, 0, 1}, {1, 1, 0, 0}, {1, 2, 1, 0}, {1, 3, 2, 0}, {1, 4, 3, 0}, {1, allTicks, allTicks - 1, 0},
		{2, 1, 0, 1}, {2, 2, 1, 1}, {2, 3, 1, 0}, {2, 4, 2, 0}, {2, 5, 3, 0}, {3, 5, 2, 0}, {3, 6, 3, 0}, {3, 7, 4, 0}, {4, 7, 3, 0},
		{allTicks / 2, allTicks - 1, allTicks/2 - 1, 0}, {allTicks / 2, allTicks, allTicks / 2, 0}, {allTicks/2 + 1, allTicks, allTicks / 2, 1}, {allTicks/2 - 1, allTicks, allTicks/2 + 1, 0}, {allTicks, allTicks, allTicks / 2, allTicks / 2},
		{1 << 33, allTicks, allTicks / 2, 1<<33 - allTicks/2}, {greatest, 1, 0, greatest - 1}, {greatest, allTicks - 1, allTicks/2 - 1, greatest - allTicks/2},
	} {
		for _, now := range []int64{0, 3, 500, 1 << 34} {
			checkGo(t, state{now, x.lag}, x.n, state{now + x.on, x.left})
		}
	}
}

func TestP11_1GoNoTicks(t *testing.T) {
	for _, from := range []state{{0, 0}, {100, 0}, {100, 7}, {100, 1 << 30}, {greatest, 0}, {greatest, 9}, {greatest - 3, 2}} {
		for _, n := range noTicks() {
			checkGo(t, from, n, from)
		}
	}
}

func TestP11_1GoStandsStillAtTheLastTime(t *testing.T) {
	for _, x := range []struct {
		from state
		n    int64
		want state
	}{
		{state{greatest - 5, 0}, 4, state{greatest - 1, 0}}, {state{greatest - 5, 0}, 5, state{greatest, 0}}, {state{greatest - 5, 0}, 6, state{greatest, 0}}, {state{greatest - 5, 0}, allTicks, state{greatest, 0}},
		{state{greatest, 0}, 0, state{greatest, 0}}, {state{greatest, 0}, 1, state{greatest, 0}}, {state{greatest, 0}, allTicks, state{greatest, 0}},
		// A lag goes by as elsewhere.
		{state{greatest - 5, 2}, 7, state{greatest, 0}}, {state{greatest - 5, 2}, 6, state{greatest - 1, 0}}, {state{greatest - 5, 2}, 8, state{greatest, 0}}, {state{greatest - 2, 50}, 4, state{greatest, 48}}, {state{greatest - 2, 50}, 6, state{greatest, 47}},
		{state{greatest, 10}, 0, state{greatest, 10}}, {state{greatest, 10}, 1, state{greatest, 9}}, {state{greatest, 10}, 6, state{greatest, 7}}, {state{greatest, 10}, 7, state{greatest, 6}}, {state{greatest, 10}, 100, state{greatest, 0}},
	} {
		checkGo(t, x.from, x.n, x.want)
	}
}

func TestP11_1Right(t *testing.T) {
	for _, x := range []struct {
		to   cross.Range
		want state
	}{
		// It has what is shown.
		{cross.Range{Low: 90, High: 110}, state{100, 0}}, {cross.Range{Low: 100, High: 110}, state{100, 0}}, {cross.Range{Low: 90, High: 100}, state{100, 0}}, {cross.Range{Low: 100, High: 100}, state{100, 0}}, {cross.Range{Low: -greatest, High: greatest}, state{100, 0}},
		// It is above.
		{cross.Range{Low: 101, High: 101}, state{101, 0}}, {cross.Range{Low: 101, High: 900}, state{101, 0}}, {cross.Range{Low: 200, High: 300}, state{200, 0}}, {cross.Range{Low: greatest, High: greatest}, state{greatest, 0}}, {cross.Range{Low: greatest - 1, High: greatest}, state{greatest - 1, 0}},
		// It is below.
		{cross.Range{Low: 99, High: 99}, state{100, 1}}, {cross.Range{Low: 0, High: 99}, state{100, 1}}, {cross.Range{Low: -greatest, High: 99}, state{100, 1}}, {cross.Range{Low: 10, High: 60}, state{100, 40}}, {cross.Range{Low: 0, High: 0}, state{100, 100}}, {cross.Range{Low: -9, High: -1}, state{100, 101}}, {cross.Range{Low: -greatest, High: -greatest}, state{100, 100 + greatest}},
	} {
		// What it lagged by says nothing.
		for _, lag := range []int64{0, 1, 40, 100, 1000, greatest} {
			checkRight(t, state{100, lag}, x.to, x.want)
		}
	}
}

// A lag is no time where it is above the greatest one, and it is the whole of it.
func TestP11_1RightFarAbove(t *testing.T) {
	for _, now := range []int64{1, greatest - 1, greatest} {
		for _, high := range []int64{-1, -2, 1 - greatest, -greatest} {
			checkRight(t, state{now, 0}, cross.Range{Low: -greatest, High: high}, state{now, now - high})
		}
	}
	checkRight(t, state{greatest, 0}, cross.Range{Low: -greatest, High: -greatest}, state{greatest, 2 * greatest})
}

func TestP11_1RightFromZero(t *testing.T) {
	for _, x := range []struct {
		to   cross.Range
		want state
	}{
		{cross.Range{}, state{}}, {cross.Range{Low: -5, High: -1}, state{0, 1}}, {cross.Range{Low: -5, High: 0}, state{}}, {cross.Range{Low: 1, High: 1}, state{1, 0}}, {cross.Range{Low: -greatest, High: -greatest}, state{0, greatest}},
	} {
		checkRight(t, state{}, x.to, x.want)
	}
}

// A wrong range leaves the lag, too, as it is.
func TestP11_1RightOfWrongRanges(t *testing.T) {
	for _, from := range []state{{0, 0}, {100, 0}, {100, 7}, {100, greatest}, {greatest, 0}, {greatest, 9}} {
		for _, to := range wrongRanges() {
			checkRight(t, from, to, from)
		}
	}
}

func TestP11_1AtTheEdges(t *testing.T) {
	for _, now := range []int64{0, 1, 9, 100, greatest - 9, greatest - 1, greatest} {
		for _, a := range ranges(now) {
			for _, b := range ranges(now) {
				for _, n := range []int64{0, 1, 2, 5, 18, allTicks} {
					p := newPair(t, now)
					p.right(a)
					p.goOn(n)
					p.right(b)
					p.goOn(n)
				}
			}
		}
	}
}

// What the clock would show if it were right goes on by each tick, as long as there is a lag.
func TestP11_1TheRightTimeGoesOn(t *testing.T) {
	for lag := range int64(40) {
		for n := range int64(100) {
			c := shownAt(state{1000, lag})
			c.Go(n)
			if got := of(c); got.now-got.lag != 1000-lag+n || got.now < 1000+n/2 {
				t.Errorf("1000, lag %d: Go(%d): %+v", lag, n, got)
			}
		}
	}
}

// Ticks that go by two by two leave out what they do all at once.
func TestP11_1TicksInParts(t *testing.T) {
	for lag := range int64(30) {
		for n := range int64(60) {
			parts, once := shownAt(state{500, lag}), shownAt(state{500, lag})
			for range n / 2 {
				parts.Go(2)
			}
			parts.Go(n % 2)
			once.Go(n)
			if of(parts) != of(once) {
				t.Errorf("500, lag %d: %d ticks: %+v; at once: %+v", lag, n, of(parts), of(once))
			}
		}
	}
}

// A clock may be put right while it still lags: of the lag that was nothing stays.
func TestP11_1RightAgain(t *testing.T) {
	p := newPair(t, 200)
	for high := int64(150); high < 230; high += 7 {
		p.right(cross.Range{Low: 0, High: high})
		p.goOn(3)
		p.right(cross.Range{Low: 5, High: 4})
		p.goOn(-1)
	}
	p.right(cross.Range{Low: 300, High: 300})
	p.goOn(1)
	if got := of(p.c); got != (state{301, 0}) {
		t.Errorf("%+v; want 301", got)
	}
}

func TestP11_1Nil(t *testing.T) {
	var c *Tide
	for _, n := range append(noTicks(), 0, 1, 5, allTicks) {
		if got := c.Go(n); got != 0 {
			t.Errorf("Go(%d) of nil: %d", n, got)
		}
	}
	for _, to := range append(wrongRanges(), ranges(50)...) {
		if got := c.Right(to); got != 0 {
			t.Errorf("Right(%+v) of nil: %d", to, got)
		}
	}
	if got := of(c); got != (state{}) {
		t.Errorf("nil: %+v", got)
	}
}

func TestP0_1ZeroTide(t *testing.T) {
	p := pair{t, &Tide{}, newModel(0)}
	p.check(state{})
	p.goOn(4)
	p.right(cross.Range{Low: 1, High: 2})
	p.goOn(3)
}

func TestP0_5TidesShareNothing(t *testing.T) {
	p, q := newPair(t, 50), newPair(t, 50)
	p.right(cross.Range{Low: 0, High: 40})
	q.check(state{50, 0})
	q.goOn(9)
	p.check(state{50, 10})
	p.goOn(9)
	q.right(cross.Range{Low: 90, High: 91})
	p.check(state{50, 10})
}

func TestP0_5AskingChangesNothing(t *testing.T) {
	c := shownAt(state{100, 10})
	for range 3 {
		if got := of(c); got != (state{100, 10}) {
			t.Errorf("%+v", got)
		}
	}
	for range 3 {
		if got := c.Go(0); got != 100 || of(c) != (state{100, 10}) {
			t.Errorf("Go(0): %d, %+v", got, of(c))
		}
	}
}

// randomRange is one about now, or any, or one that is wrong.
func randomRange(r *rand.Rand, now int64) cross.Range {
	switch r.Intn(12) {
	case 0:
		return cross.Range{Low: int64(r.Uint64()), High: int64(r.Uint64())}
	case 1:
		low := r.Int63n(2*greatest+1) - greatest
		return cross.Range{Low: low, High: low + r.Int63n(1+greatest-low)}
	case 2:
		return cross.Range{Low: -greatest, High: r.Int63n(now + 1)}
	default:
		low := now + r.Int63n(60) - 40
		return cross.Range{Low: low, High: low + r.Int63n(30) - 2}
	}
}

func randomTicks(r *rand.Rand) int64 {
	switch r.Intn(20) {
	case 0:
		return int64(r.Uint64())
	case 1:
		return r.Int63n(allTicks + 2)
	default:
		return r.Int63n(50) - 2
	}
}

func TestP11_1ManySteps(t *testing.T) {
	r := rand.New(rand.NewSource(11))
	for range 2000 {
		now := r.Int63n(200)
		if r.Intn(4) == 0 {
			now = greatest - now
		}
		p := newPair(t, now)
		for range 200 {
			if r.Intn(4) == 0 {
				p.right(randomRange(r, p.m.now))
			} else {
				p.goOn(randomTicks(r))
			}
		}
	}
}

// What Right is for: where most others are right, one that is put right by what most of them agree on comes to the true time, and never goes back.
func TestP11_1ComesToTheTruth(t *testing.T) {
	r := rand.New(rand.NewSource(1111))
	for range 500 {
		truth := r.Int63n(1000)
		c := New(r.Int63n(1000))
		for range 600 {
			l := make([]cross.Range, 5)
			for i := range l {
				low := truth - r.Int63n(5)
				l[i] = cross.Range{Low: low, High: truth + r.Int63n(5)}
				if i >= 3 {
					l[i] = cross.Range{Low: low + r.Int63n(2000) - 1000, High: low + r.Int63n(2000) - 1000}
				}
			}
			to, n := cross.Best(l)
			if n >= 3 && to.Low <= truth && truth <= to.High {
				c.Right(to)
			}
			was, ticks := c.Now(), 1+r.Int63n(9)
			truth += ticks
			if now := c.Go(ticks); now < was || now > was+ticks {
				t.Fatalf("from %d by %d: %d", was, ticks, now)
			}
		}
		if off := c.Now() - truth; off < -9 || off > 9 {
			t.Errorf("%d; the truth is %d", c.Now(), truth)
		}
	}
}

// FuzzTide plays steps of three bytes: what is done, and two small numbers or, for the last kind, the ones that are given.
func FuzzTide(f *testing.F) {
	f.Add(int64(100), int64(-1)<<40, int64(1)<<40, []byte{0, 5, 0, 1, 120, 130, 1, 60, 70, 0, 1, 0, 0, 6, 0, 2, 0, 0, 3, 0, 0})
	f.Add(int64(1)<<40, int64(-1)<<40, int64(-1)<<40, []byte{2, 0, 0, 0, 255, 0, 3, 0, 0, 1, 130, 130})
	f.Add(int64(math.MinInt64), int64(math.MaxInt64), int64(1)<<20, []byte{2, 0, 0, 3, 0, 0, 1, 9, 8})
	f.Fuzz(func(t *testing.T, now, a, b int64, steps []byte) {
		p := newPair(t, now)
		for ; len(steps) >= 3; steps = steps[3:] {
			x, y := int64(steps[1]), int64(steps[2])
			switch steps[0] % 4 {
			case 0:
				p.goOn(x*y - 3)
			case 1:
				p.right(cross.Range{Low: p.m.now + x - 128, High: p.m.now + y - 128})
			case 2:
				p.right(cross.Range{Low: a, High: b})
			case 3:
				p.goOn(b)
			}
		}
	})
}
