package drift

import (
	"cmp"
	"math"
	"math/big"
	"math/rand"
	"slices"
	"testing"
)

const (
	greatest = int64(1) << 40 // of times
	million  = int64(1000000)
	lastRate = int64(500000)
)

type clocks struct {
	low, high int64
	ok        bool
}

func of(low, high int64, ok bool) clocks { return clocks{low, high, ok} }

// reads gives readings: real times and clocks in turn.
func reads(l ...int64) []Read {
	var out []Read
	for i := 0; i+1 < len(l); i += 2 {
		out = append(out, Read{l[i], l[i+1]})
	}
	return out
}

func goodTimes() []int64 {
	l := []int64{1 << 31, -1 << 31, 1 << 32, -1 << 32, greatest / 2, -greatest / 2, million, -million}
	for d := range int64(4) {
		l = append(l, d, -d, 10+d, greatest-d, -greatest+d)
	}
	return l
}

// noTimes are those next to the bounds, and those that a narrower number would take for good ones, or that wrap when reckoned with.
func noTimes() []int64 {
	l := []int64{1 << 41, -1 << 41, 1 << 44, -1 << 44, 1 << 48, 1<<48 + 3, 1 << 62, -1 << 62}
	for d := range int64(4) {
		l = append(l, greatest+1+d, -greatest-1-d, math.MaxInt64-d, math.MinInt64+d)
	}
	return l
}

func goodRates() []int64 {
	return []int64{0, 1, 2, 99, 100, 101, 200000, 250000, 333333, 333334, 499999, lastRate}
}

func noRates() []int64 {
	l := []int64{-1, -2, -100, -lastRate, -million, -million - 1, lastRate + 1, lastRate + 2, million - 1, million, million + 1}
	return append(l, 1<<32, 1<<32+1, -1<<32, 1<<40, math.MaxInt64, math.MinInt64, math.MaxInt64-million, math.MinInt64+million)
}

func isNoTime(a int64) bool { return a < -greatest || a > greatest }

func isNoRate(ppm int64) bool { return ppm < 0 || ppm > lastRate }

// limits are, by the words and with numbers that have no bound, the least and greatest of c 10^6 for the real time from one time to another.
func limits(from, to, ppm int64) (*big.Int, *big.Int) {
	r := new(big.Int).Sub(big.NewInt(to), big.NewInt(from))
	least := new(big.Int).Mul(r, big.NewInt(million-ppm))
	most := new(big.Int).Mul(r, big.NewInt(million+ppm))
	return least.Sub(least, big.NewInt(million)), most.Add(most, big.NewInt(million))
}

// keeps reckons by the words whether two readings keep the bound.
func keeps(a, b Read, ppm int64) bool {
	least, most := limits(a.Real, b.Real, ppm)
	c := new(big.Int).Sub(big.NewInt(b.Clock), big.NewInt(a.Clock))
	if c.Sign() < 0 {
		return false
	}
	c.Mul(c, big.NewInt(million))
	return c.Cmp(least) >= 0 && c.Cmp(most) <= 0
}

// fault holds each reading against each one ahead of it.
func fault(l []Read, ppm int64) int {
	if isNoRate(ppm) {
		return 0
	}
	for i, r := range l {
		if isNoTime(r.Real) || isNoTime(r.Clock) || i > 0 && r.Real < l[i-1].Real {
			return 0
		}
	}
	for i, r := range l {
		for _, a := range l[:i] {
			if !keeps(a, r, ppm) {
				return i + 1
			}
		}
	}
	return -1
}

// bounds reckons by the words, with numbers that have no bound.
func bounds(r Read, real, ppm int64) clocks {
	if isNoRate(ppm) || isNoTime(r.Real) || isNoTime(r.Clock) || isNoTime(real) || real < r.Real {
		return clocks{}
	}
	least, most := limits(r.Real, real, ppm)
	if least.Sign() < 0 {
		least.SetInt64(0)
	}
	// Rounded up: the next whole number above is that below, of the negative one.
	least.Neg(least).Div(least, big.NewInt(million)).Neg(least)
	most.Div(most, big.NewInt(million))
	low, high := least.Int64()+r.Clock, most.Int64()+r.Clock
	if isNoTime(low) || isNoTime(high) {
		return clocks{}
	}
	return clocks{low, high, true}
}

func checkFault(t *testing.T, l []Read, ppm int64) {
	t.Helper()
	want := fault(l, ppm)
	if got := Fault(l, ppm); got != want {
		t.Errorf("Fault(%v, %d): %d; want %d", l, ppm, got, want)
	}
	if got := May(l, ppm); got != (want == -1) {
		t.Errorf("May(%v, %d): %v; want %v", l, ppm, got, want == -1)
	}
}

func checkBounds(t *testing.T, r Read, real, ppm int64) {
	t.Helper()
	if got, want := of(Bounds(r, real, ppm)), bounds(r, real, ppm); got != want {
		t.Errorf("Bounds(%v, %d, %d): %v; want %v", r, real, ppm, got, want)
	}
}

// knownFault holds Fault, May and the model against a number that is written out.
func knownFault(t *testing.T, l []Read, ppm int64, want int) {
	t.Helper()
	if got := fault(l, ppm); got != want {
		t.Errorf("the model's fault(%v, %d): %d; want %d", l, ppm, got, want)
	}
	checkFault(t, l, ppm)
}

func TestP8_1FaultOfTwo(t *testing.T) {
	for _, c := range []struct {
		went, clock, ppm int64
		want             int
	}{
		// A tick to and fro is let pass at any rate.
		{0, 0, 0, -1}, {0, 1, 0, -1}, {0, 2, 0, 2}, {0, 1, lastRate, -1}, {0, 2, lastRate, 2},
		{1, 0, 0, -1}, {1, 2, 0, -1}, {1, 3, 0, 2}, {2, 0, 0, 2}, {2, 1, 0, -1}, {2, 3, 0, -1}, {2, 4, 0, 2},
		// What is not whole counts as it is.
		{1, 2, lastRate, -1}, {1, 3, lastRate, 2}, {2, 4, lastRate, -1}, {2, 5, lastRate, 2},
		{2, 0, lastRate, -1}, {3, 0, lastRate, 2}, {3, 1, lastRate, -1}, {4, 1, lastRate, -1}, {4, 0, lastRate, 2},
		{999999, 1000000, 1, -1}, {999999, 1000001, 1, 2}, {1000000, 1000002, 1, -1}, {1000000, 1000003, 1, 2},
		{1000000, 999998, 1, -1}, {1000000, 999997, 1, 2}, {1000001, 999999, 1, -1}, {1000001, 999998, 1, 2},
		// A clock may stand, not fall.
		{0, -1, 0, 2}, {1, -1, 0, 2}, {1, -1, lastRate, 2}, {0, -1, lastRate, 2}, {2, -1, lastRate, 2},
	} {
		for _, first := range reads(0, 0, 7, 100, -50, -3, -5, 4, greatest/2, -greatest/2) {
			l := []Read{first, {first.Real + c.went, first.Clock + c.clock}}
			knownFault(t, l, c.ppm, c.want)
		}
	}
}

// All readings ahead count, not the last one or the first one alone.
func TestP8_1FaultWithSomeOneAhead(t *testing.T) {
	for _, c := range []struct {
		l    []Read
		ppm  int64
		want int
	}{
		{nil, 0, -1}, {reads(), lastRate, -1}, {reads(5, 100), 0, -1}, {reads(-5, -100), 1, -1},
		// Each step keeps the bound, both together do not.
		{reads(0, 0, 10, 11, 20, 22), 0, 3}, {reads(0, 0, 10, 9, 20, 18), 0, 3}, {reads(0, 0, 0, 1, 0, 2), 0, 3},
		// It is the one in the middle that the last does not keep the bound with.
		{reads(0, 0, 10, 11, 20, 19), 0, 3}, {reads(0, 0, 10, 9, 20, 21), 0, 3}, {reads(0, 5, 1, 6, 2, 7, 3, 6), 0, 4},
		// The middle one does not keep it with the first: it is the first fault, whatever comes behind.
		{reads(0, 0, 10, 12, 20, 20), 0, 2}, {reads(0, 0, 10, 8, 20, 20), 0, 2}, {reads(0, 0, 10, 12, 20, 0, 30, 90), 0, 2},
		{reads(0, 0, 10, 11, 20, 21, 30, 29), 0, 4}, {reads(0, 0, 10, 11, 20, 21, 30, 31, 40, 40, 50, 50), 0, -1},
		{reads(0, 0, 10, 15, 20, 20, 30, 35, 40, 40), lastRate, -1}, {reads(0, 0, 10, 4, 20, 20, 30, 24, 40, 40), lastRate, -1},
		{reads(0, 0, 10, 4, 20, 8), lastRate, 3}, {reads(0, 0, 10, 16, 20, 32), lastRate, 3},
		{reads(3, 3, 3, 3, 3, 4, 3, 4, 3, 3), lastRate, 5}, {reads(3, 3, 3, 3, 3, 4, 3, 4), 0, -1},
	} {
		knownFault(t, c.l, c.ppm, c.want)
	}
}

func TestP8_1FaultOfTheLastTimes(t *testing.T) {
	for _, c := range []struct {
		l    []Read
		ppm  int64
		want int
	}{
		{reads(-greatest, -greatest, greatest, greatest), 0, -1}, {reads(-greatest, -greatest, greatest, greatest), lastRate, -1},
		{reads(-greatest, -greatest, greatest, greatest-1), 0, -1}, {reads(-greatest, -greatest, greatest, greatest-2), 0, 2},
		{reads(-greatest, -greatest, greatest-1, greatest), 0, -1}, {reads(-greatest, -greatest, greatest-2, greatest), 0, 2},
		{reads(-greatest, -greatest, greatest, 0), lastRate, -1}, {reads(-greatest, -greatest, greatest, -1), lastRate, -1}, {reads(-greatest, -greatest, greatest, -2), lastRate, 2},
		{reads(-greatest, greatest, greatest, -greatest), lastRate, 2}, {reads(-greatest, greatest, greatest, greatest), lastRate, 2}, {reads(greatest, -greatest, greatest, greatest), lastRate, 2},
	} {
		knownFault(t, c.l, c.ppm, c.want)
	}
}

func TestP8_1FaultOfNoTime(t *testing.T) {
	for _, a := range noTimes() {
		for _, l := range [][]Read{
			reads(a, 0), reads(0, a), reads(a, a), reads(0, 0, a, a), reads(0, 0, 1, a), reads(a, a, 0, 0), reads(0, a, 1, 1),
			reads(0, 0, 1, 1, 2, 2, 3, a), reads(0, 0, 1, 1, a, 2, 3, 3), reads(a, a, a, a),
			// Another one does not keep the bound, ahead of it or behind.
			reads(0, 0, 0, 5, 1, a), reads(0, a, 0, 0, 0, 5), reads(0, 0, 0, 5, a, 5),
		} {
			for _, ppm := range []int64{0, 100, lastRate} {
				knownFault(t, l, ppm, 0)
			}
		}
	}
}

func TestP8_1FaultOfTimes(t *testing.T) {
	for _, a := range goodTimes() {
		for _, b := range goodTimes() {
			for _, ppm := range goodRates() {
				knownFault(t, reads(a, b), ppm, -1)
				knownFault(t, reads(a, b, a, b, a, b), ppm, -1)
				checkFault(t, reads(a, a, b, b), ppm)
				checkFault(t, reads(a, -b, b, -a), ppm)
			}
		}
	}
}

func TestP8_1FaultOfFallingReals(t *testing.T) {
	for _, l := range [][]Read{
		reads(5, 0, 4, 0), reads(1, 0, 0, 0), reads(0, 0, -1, 0), reads(greatest, 0, -greatest, 0), reads(0, 0, 1, 1, 2, 2, 1, 2),
		// Above the first one, and not above the last one.
		reads(0, 0, 5, 5, 3, 5, 6, 6), reads(0, 0, 5, 5, 4, 4, 5, 5),
		// Another one does not keep the bound, ahead of it or behind.
		reads(0, 0, 0, 5, -1, 5), reads(5, 0, 4, 0, 4, 9), reads(5, 9, 4, 0),
	} {
		for _, ppm := range goodRates() {
			knownFault(t, l, ppm, 0)
		}
	}
	knownFault(t, reads(5, 0, 5, 0, 5, 1), 0, -1)
}

func TestP8_1FaultOfNoRate(t *testing.T) {
	for _, ppm := range noRates() {
		for _, l := range [][]Read{nil, {}, reads(0, 0), reads(0, 0, 10, 10), reads(0, 0, 10, 50), reads(0, 0, 10, -5), reads(greatest+1, 0), reads(5, 0, 4, 0)} {
			knownFault(t, l, ppm, 0)
		}
	}
	for ppm := int64(-3); ppm <= lastRate+3; ppm++ {
		if got, want := Fault(nil, ppm) == 0, isNoRate(ppm); got != want {
			t.Errorf("Fault(nil, %d) is 0: %v; want %v", ppm, got, want)
		}
	}
}

func TestP8_1EachSmallList(t *testing.T) {
	for _, ppm := range []int64{0, 1, 250000, 333333, lastRate} {
		for n := range 8 * 8 * 8 * 8 {
			l := reads(0, 3, int64(n%8), int64(n/8%8), int64(n%8+n/64%8), int64(n/512))
			checkFault(t, l, ppm)
		}
	}
}

// walk is a list of readings, most of which keep the bound with the one ahead.
func walk(r *rand.Rand, n int, ppm int64) []Read {
	l := []Read{{r.Int63n(200) - 100, r.Int63n(200) - 100}}
	for len(l) < n {
		last := l[len(l)-1]
		went := r.Int63n(1 << r.Intn(24))
		rate := million - ppm + r.Int63n(2*ppm+1)
		clock := last.Clock + went*rate/million
		if r.Intn(4) == 0 {
			clock = max(last.Clock, clock+r.Int63n(5)-2)
		}
		l = append(l, Read{last.Real + went, clock})
	}
	return l
}

func TestP8_1ManyWalks(t *testing.T) {
	r := rand.New(rand.NewSource(8))
	told := map[int]int{}
	for range 30000 {
		ppm := r.Int63n(lastRate + 1)
		if r.Intn(2) == 0 {
			ppm = goodRates()[r.Intn(len(goodRates()))]
		}
		l := walk(r, r.Intn(12)+1, ppm)
		checkFault(t, l, ppm)
		told[min(Fault(l, ppm), 3)]++
	}
	// The walks are such that each kind of answer is told often.
	for _, kind := range []int{-1, 2, 3} {
		if told[kind] < 500 {
			t.Errorf("%d walks with a fault of kind %d", told[kind], kind)
		}
	}
}

func TestP8_1ManyLists(t *testing.T) {
	r := rand.New(rand.NewSource(80))
	pick := append(goodTimes(), goodTimes()...)
	pick = append(pick, noTimes()...)
	for range 50000 {
		var l []Read
		for range r.Intn(5) {
			l = append(l, Read{pick[r.Intn(len(pick))], pick[r.Intn(len(pick))]})
		}
		if r.Intn(3) > 0 {
			slices.SortFunc(l, func(a, b Read) int { return cmp.Compare(a.Real, b.Real) })
		}
		checkFault(t, l, r.Int63n(lastRate+3)-1)
	}
}

func TestP8_1BoundsKnown(t *testing.T) {
	for _, c := range []struct {
		r         Read
		real, ppm int64
		want      clocks
	}{
		{Read{0, 100}, 10, 0, clocks{109, 111, true}}, {Read{0, 100}, 10, lastRate, clocks{104, 116, true}},
		// The least is not below r's.
		{Read{0, 100}, 0, 0, clocks{100, 101, true}}, {Read{0, 100}, 1, 0, clocks{100, 102, true}}, {Read{0, 100}, 2, 0, clocks{101, 103, true}},
		{Read{0, 100}, 0, lastRate, clocks{100, 101, true}}, {Read{0, 100}, 1, lastRate, clocks{100, 102, true}}, {Read{0, 100}, 2, lastRate, clocks{100, 104, true}},
		// The least is rounded up, the greatest down.
		{Read{0, 100}, 3, lastRate, clocks{101, 105, true}}, {Read{0, 100}, 4, lastRate, clocks{101, 107, true}}, {Read{0, 0}, 1000001, 1, clocks{999999, 1000003, true}},
		{Read{0, 0}, 1000000, 1, clocks{999998, 1000002, true}}, {Read{0, 0}, 999999, 1, clocks{999998, 1000000, true}},
		// Readings below 0 are as others.
		{Read{-7, -100}, 3, lastRate, clocks{-96, -84, true}}, {Read{-20, 5}, -10, 0, clocks{14, 16, true}}, {Read{-3, -1}, 0, lastRate, clocks{0, 4, true}},
		// At the bounds of times.
		{Read{0, greatest - 1}, 0, 0, clocks{greatest - 1, greatest, true}}, {Read{0, 0}, greatest - 1, 0, clocks{greatest - 2, greatest, true}},
		{Read{greatest, 3}, greatest, 0, clocks{3, 4, true}}, {Read{-greatest, -greatest}, -greatest, 0, clocks{-greatest, 1 - greatest, true}},
		{Read{-greatest, -greatest}, greatest - 1, 0, clocks{greatest - 2, greatest, true}}, {Read{-greatest, -greatest}, greatest / 3, lastRate, clocks{-greatest/3 - 1, greatest, true}}, {Read{-greatest, -greatest}, greatest/3 + 1, lastRate, clocks{}},
		// The greatest is no time, or neither is one.
		{Read{0, greatest}, 0, 0, clocks{}}, {Read{0, greatest}, 10, 0, clocks{}}, {Read{0, greatest - 11}, 10, 0, clocks{greatest - 2, greatest, true}}, {Read{0, greatest - 10}, 10, 0, clocks{}},
		{Read{0, 0}, greatest, 0, clocks{}}, {Read{-greatest, -greatest}, greatest, 0, clocks{}}, {Read{-greatest, greatest}, greatest, lastRate, clocks{}}, {Read{-greatest, -greatest}, greatest, lastRate, clocks{}},
		// Real time goes back.
		{Read{5, 100}, 4, 0, clocks{}}, {Read{5, 100}, 4, lastRate, clocks{}}, {Read{0, 100}, -1, 0, clocks{}}, {Read{greatest, 0}, -greatest, 0, clocks{}},
	} {
		if got := bounds(c.r, c.real, c.ppm); got != c.want {
			t.Errorf("the model's bounds(%v, %d, %d): %v; want %v", c.r, c.real, c.ppm, got, c.want)
		}
		checkBounds(t, c.r, c.real, c.ppm)
	}
}

func TestP8_1BoundsOfNoTime(t *testing.T) {
	for _, a := range noTimes() {
		for _, b := range append(goodTimes(), noTimes()...) {
			for _, ppm := range goodRates() {
				for _, got := range []clocks{of(Bounds(Read{a, b}, b, ppm)), of(Bounds(Read{b, a}, b, ppm)), of(Bounds(Read{b, a}, b+20, ppm)), of(Bounds(Read{b, b}, a, ppm)), of(Bounds(Read{a, b}, a, ppm))} {
					if got != (clocks{}) {
						t.Errorf("Bounds with %d and %d, at %d: %v; want none", a, b, ppm, got)
					}
				}
			}
		}
	}
	// The Clocks would be times, but r's is none.
	if got := of(Bounds(Read{0, -greatest - 5}, 100, 0)); got != (clocks{}) {
		t.Errorf("Bounds of a reading whose Clock is no time: %v", got)
	}
}

func TestP8_1BoundsOfNoRate(t *testing.T) {
	for _, ppm := range noRates() {
		for _, c := range []struct {
			r    Read
			real int64
		}{{Read{0, 100}, 10}, {Read{0, 100}, 0}, {Read{0, 0}, 0}, {Read{-greatest, -greatest}, greatest}, {Read{5, 5}, 4}} {
			if got := of(Bounds(c.r, c.real, ppm)); got != (clocks{}) {
				t.Errorf("Bounds(%v, %d, %d): %v; want none", c.r, c.real, ppm, got)
			}
		}
	}
}

func TestP8_1BoundsAtTheEdges(t *testing.T) {
	for _, a := range append(goodTimes(), noTimes()...) {
		for _, b := range goodTimes() {
			for _, c := range append(goodTimes(), noTimes()...) {
				for _, ppm := range append(goodRates(), -1, lastRate+1) {
					checkBounds(t, Read{b, a}, c, ppm)
				}
			}
		}
	}
}

func TestP8_1BoundsAtEachRate(t *testing.T) {
	for ppm := int64(-2); ppm <= lastRate+2; ppm++ {
		checkBounds(t, Read{3, -4}, 1000006, ppm)
		checkBounds(t, Read{3, -4}, 7, ppm)
		checkBounds(t, Read{-greatest / 2, -greatest}, greatest/2, ppm)
	}
}

func TestP8_1ManyBounds(t *testing.T) {
	r := rand.New(rand.NewSource(88))
	for range 100000 {
		real, ppm := (r.Int63n(2*greatest+1)-greatest)>>r.Intn(40), r.Int63n(lastRate+1)
		read := Read{real, (r.Int63n(2*greatest+1) - greatest) >> r.Intn(40)}
		checkBounds(t, read, real+r.Int63n(greatest)>>r.Intn(40), ppm)
		checkBounds(t, Read{int64(r.Uint64()), int64(r.Uint64())}, int64(r.Uint64()), ppm)
	}
}

// What Bounds tells keeps the bound, and what is next to it does not.
func TestP8_1BoundsAreThoseOfMay(t *testing.T) {
	r := rand.New(rand.NewSource(888))
	for range 20000 {
		from, ppm := Read{r.Int63n(1000) - 500, r.Int63n(1000) - 500}, r.Int63n(lastRate+1)
		real := from.Real + r.Int63n(1<<r.Intn(35))
		low, high, ok := Bounds(from, real, ppm)
		if !ok || low > high {
			t.Fatalf("Bounds(%v, %d, %d): %d, %d, %v", from, real, ppm, low, high, ok)
		}
		for _, clock := range []int64{low - 1, low, low + (high-low)/2, high, high + 1} {
			if got, want := May([]Read{from, {real, clock}}, ppm), low <= clock && clock <= high; got != want {
				t.Errorf("May of %v and %d, %d, at %d: %v; want %v", from, real, clock, ppm, got, want)
			}
		}
	}
}

// A list that is long is gone through in one: it would take hours to hold each reading against each one ahead.
func TestP0_1LongLists(t *testing.T) {
	const n = 2000000
	l := make([]Read, n)
	for i := range l {
		l[i] = Read{int64(i), int64(i + i%2)}
	}
	if got := Fault(l, 0); got != -1 {
		t.Errorf("Fault: %d; want -1", got)
	}
	l[n-1].Clock -= 2
	if got := Fault(l, 0); got != n {
		t.Errorf("Fault: %d; want %d", got, n)
	}
	l[n-1].Real = 0
	if got := Fault(l, 0); got != 0 {
		t.Errorf("Fault: %d; want 0", got)
	}
}

func TestP0_3ListsStay(t *testing.T) {
	for _, l := range [][]Read{reads(0, 0, 10, 11, 20, 22), reads(0, 0, 10, 10), reads(5, 0, 4, 0), reads(0, greatest+1, 0, 0)} {
		given := append(slices.Clone(l), reads(-9, -9, -8, -8)...)
		kept := slices.Clone(given)
		Fault(given[:len(l)], 0)
		May(given[:len(l)], 0)
		if !slices.Equal(given, kept) {
			t.Errorf("the list changed: %v; want %v", given, kept)
		}
	}
}

func TestP0_4NilIsEmpty(t *testing.T) {
	for _, ppm := range append(goodRates(), noRates()...) {
		if Fault(nil, ppm) != Fault([]Read{}, ppm) || May(nil, ppm) != May([]Read{}, ppm) {
			t.Errorf("at %d a nil list is not as an empty one", ppm)
		}
		checkFault(t, nil, ppm)
	}
}

func TestP0_5AnswersAgain(t *testing.T) {
	for range 3 {
		checkFault(t, reads(0, 0, 10, 12), 0)
		checkFault(t, reads(0, 0, 10, 11, 20, 20), 0)
		checkFault(t, reads(5, 0, 4, 0), 0)
		checkBounds(t, Read{0, 100}, 10, 0)
		checkBounds(t, Read{0, 100}, 10, lastRate+1)
	}
}

func FuzzDrift(f *testing.F) {
	f.Add(int64(0), int64(0), int64(10), int64(11), int64(10), int64(11), int64(0))
	f.Add(-greatest, -greatest, greatest, int64(0), greatest, greatest, lastRate)
	f.Add(int64(math.MinInt64), int64(math.MaxInt64), int64(5), int64(-5), int64(1), int64(1), int64(-1))
	f.Fuzz(func(t *testing.T, real, clock, went, on, went2, on2, ppm int64) {
		checkFault(t, reads(real, clock, real+went, clock+on, real+went+went2, clock+on+on2), ppm)
		checkBounds(t, Read{real, clock}, real+went, ppm)
	})
}
