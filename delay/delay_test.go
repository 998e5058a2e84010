package delay

import (
	"math"
	"math/big"
	"math/rand"
	"testing"
)

const (
	greatest = int64(1) << 40 // of times
	million  = int64(1000000)
	lastRate = int64(500000)
)

type answer struct {
	bound int64
	ok    bool
}

func of(bound int64, ok bool) answer { return answer{bound, ok} }

func goodTimes() []int64 {
	l := []int64{1 << 31, -1 << 31, 1 << 32, -1 << 32, greatest / 2, -greatest / 2, million, -million}
	for d := range int64(4) {
		l = append(l, d, -d, greatest-d, -greatest+d)
	}
	return l
}

// noTimes are those next to the bounds, and those that a narrower number would take for good ones, or that wrap when reckoned with.
func noTimes() []int64 {
	l := []int64{1 << 41, -1 << 41, 1 << 44, -1 << 44, 1 << 48, 1<<48 + 3, 1 << 62, -1 << 62}
	for d := range int64(4) {
		l = append(l, greatest+1+d, -greatest-1-d, math.MaxInt64-d, math.MinInt64+d)
	}
	return l
}

func goodRates() []int64 {
	return []int64{0, 1, 2, 99, 100, 101, 200000, 250000, 333333, 333334, 499999, lastRate}
}

func noRates() []int64 {
	l := []int64{-1, -2, -100, -lastRate, -million, -million - 1, lastRate + 1, lastRate + 2, million - 1, million, million + 1}
	return append(l, 1<<32, 1<<32+1, -1<<32, 1<<40, math.MaxInt64, math.MinInt64, math.MaxInt64-million, math.MinInt64+million)
}

// mosts are what Fast may be asked with: any numbers.
func mosts() []int64 {
	l := []int64{-1, 0, 1, 100, greatest - 1, greatest, greatest + 1, 1 << 41, math.MaxInt64, math.MinInt64, math.MinInt64 + 1}
	return append(l, 1<<32, -1<<32)
}

func isNoTime(a int64) bool { return a < -greatest || a > greatest }

func isNoRate(ppm int64) bool { return ppm < 0 || ppm > lastRate }

// less is a - b where all three are times, and it is not below 0.
func less(a, b int64) answer {
	if isNoTime(a) || isNoTime(b) || isNoTime(a-b) || a < b {
		return answer{}
	}
	return answer{a - b, true}
}

// model reckons by the words, with numbers that have no bound.
func model(t Trip, ppm int64) answer {
	w, h := less(t.Came, t.Sent), less(t.Back, t.Heard)
	if !w.ok || !h.ok || isNoRate(ppm) {
		return answer{}
	}
	bound := new(big.Int).Sub(mostOf(w.bound, ppm), leastOf(h.bound, ppm))
	if bound.Sign() < 0 {
		return answer{0, true}
	}
	if bound.Cmp(big.NewInt(greatest)) > 0 {
		return answer{}
	}
	return answer{bound.Int64(), true}
}

// mostOf is the least number that, taken (10^6 - ppm) times, is not below w 10^6.
func mostOf(w, ppm int64) *big.Int {
	n, rest := scaled(w, million-ppm)
	if rest.Sign() > 0 {
		n.Add(n, big.NewInt(1))
	}
	return n
}

func leastOf(h, ppm int64) *big.Int {
	n, _ := scaled(h, million+ppm)
	return n
}

func scaled(a, by int64) (*big.Int, *big.Int) {
	n := new(big.Int).Mul(big.NewInt(a), big.NewInt(million))
	return n.QuoRem(n, big.NewInt(by), new(big.Int))
}

func check(t *testing.T, trip Trip, ppm int64) {
	t.Helper()
	want := model(trip, ppm)
	if got := of(Bound(trip, ppm)); got != want {
		t.Errorf("Bound(%v, %d): %v; want %v", trip, ppm, got, want)
	}
	for _, most := range append(mosts(), want.bound-1, want.bound, want.bound+1) {
		checkFast(t, trip, ppm, most, want)
	}
}

// checkFast holds Fast against what Bound has to answer.
func checkFast(t *testing.T, trip Trip, ppm, most int64, bound answer) {
	t.Helper()
	if got, want := Fast(trip, ppm, most), bound.ok && bound.bound <= most; got != want {
		t.Errorf("Fast(%v, %d, %d): %v; want %v", trip, ppm, most, got, want)
	}
}

// known holds Bound, Fast and the model against an answer that is written out.
func known(t *testing.T, trip Trip, ppm int64, want answer) {
	t.Helper()
	if got := model(trip, ppm); got != want {
		t.Errorf("the model of %v, %d: %v; want %v", trip, ppm, got, want)
	}
	check(t, trip, ppm)
}

// none says that there is no bound, and that nothing is fast then, whatever most is.
func none(t *testing.T, trip Trip, ppm int64) {
	t.Helper()
	if got := of(Bound(trip, ppm)); got != (answer{}) {
		t.Errorf("Bound(%v, %d): %v; want none", trip, ppm, got)
	}
	for _, most := range mosts() {
		if Fast(trip, ppm, most) {
			t.Errorf("Fast(%v, %d, %d): true; there is no bound", trip, ppm, most)
		}
	}
}

func TestP9_1Known(t *testing.T) {
	for _, c := range []struct {
		w, h, ppm, want int64
	}{
		{10, 3, 0, 7}, {10, 0, 0, 10}, {0, 0, 0, 0}, {1, 1, 0, 0}, {1000, 999, 0, 1}, {1000000, 1, 0, 999999},
		// Not below 0.
		{10, 10, 0, 0}, {10, 11, 0, 0}, {10, 20, 0, 0}, {0, 1, 0, 0}, {0, 1, lastRate, 0}, {0, 1000000, lastRate, 0}, {10, 1000, 100, 0},
		// The first clock's is the next whole number above.
		{100, 0, 100, 101}, {1, 0, 1, 2}, {0, 0, 1, 0}, {0, 0, lastRate, 0}, {1, 0, lastRate, 2}, {3, 0, lastRate, 6}, {999999, 0, 1, 1000000}, {999998, 0, 1, 999999},
		{1000000, 0, 1, 1000002}, {2, 0, 250000, 3}, {3, 0, 250000, 4}, {4, 0, 250000, 6}, {2, 0, 333333, 3}, {2, 0, 333334, 4},
		// The other one's is the next whole number below.
		{100, 50, 100, 52}, {10, 3, lastRate, 18}, {10, 1, lastRate, 20}, {10, 2, lastRate, 19}, {10, 4, lastRate, 18}, {10, 5, lastRate, 17}, {10, 6, lastRate, 16},
		{1000001, 1000001, 1, 3}, {1000001, 1000000, 1, 4}, {1000001, 1000002, 1, 3}, {1000001, 1000003, 1, 2}, {4, 5, 250000, 2}, {4, 4, 250000, 3}, {8, 10, 250000, 3}, {8, 9, 250000, 4},
		// One clock slow and the other one fast: they don't cancel.
		{5, 5, lastRate, 7}, {3, 9, lastRate, 0}, {3, 8, lastRate, 1}, {1, 2, lastRate, 1}, {1, 3, lastRate, 0}, {1, 5, lastRate, 0},
	} {
		// The two clocks show what they like: it's what lies between that counts.
		for _, a := range []int64{0, 1, 7, -5, -1000000, 1 << 39, -1 << 39, -greatest, greatest - 2000000} {
			for _, b := range []int64{0, 500, -3, -greatest, greatest - 2000000} {
				known(t, Trip{Sent: a, Heard: b, Back: b + c.h, Came: a + c.w}, c.ppm, answer{c.want, true})
			}
		}
	}
}

func TestP9_1FastKnown(t *testing.T) {
	trip := Trip{Sent: 10, Heard: 500, Back: 503, Came: 20}
	for _, c := range []struct {
		ppm, most int64
		want      bool
	}{
		{0, 7, true}, {0, 8, true}, {0, 6, false}, {0, 0, false}, {0, -1, false}, {0, math.MaxInt64, true}, {0, math.MinInt64, false}, {0, greatest + 1, true},
		{lastRate, 18, true}, {lastRate, 17, false}, {lastRate, 19, true}, {lastRate + 1, 18, false}, {lastRate + 1, math.MaxInt64, false}, {-1, 7, false},
	} {
		if got := Fast(trip, c.ppm, c.most); got != c.want {
			t.Errorf("Fast(%v, %d, %d): %v; want %v", trip, c.ppm, c.most, got, c.want)
		}
	}
	// A bound of 0 is one; none is not taken for it.
	still := Trip{7, 7, 7, 7}
	if !Fast(still, lastRate, 0) || Fast(still, lastRate, -1) || Fast(still, -1, 0) || Fast(Trip{8, 7, 7, 7}, 0, 0) {
		t.Errorf("Fast at a bound of 0: wrong")
	}
}

func TestP9_1ClocksThatGoBack(t *testing.T) {
	for _, ppm := range goodRates() {
		for _, trip := range []Trip{
			{20, 0, 0, 10}, {1, 0, 0, 0}, {0, 0, 0, -1}, {0, 5, 4, 10}, {0, 1, 0, 0}, {0, 0, -1, 1000}, {20, 5, 4, 10}, {1, 1, 0, 0},
			// Both fall by as much, or the times cross.
			{10, 10, 0, 0}, {0, 10, 0, 10}, {10, 0, 10, 0}, {greatest, 0, 0, 0}, {0, greatest, 0, greatest}, {greatest, 0, greatest, 0}, {0, 0, -greatest, greatest},
			{greatest, 0, 0, -greatest}, {0, greatest, -greatest, 0}, {greatest, greatest, -greatest, -greatest},
		} {
			none(t, trip, ppm)
			check(t, trip, ppm)
		}
	}
}

// Each clock is held against itself alone.
func TestP9_1ClocksThatAreNotAlike(t *testing.T) {
	known(t, Trip{Sent: 1000, Heard: 3, Back: 5, Came: 1007}, 0, answer{5, true})
	known(t, Trip{Sent: 3, Heard: 1000, Back: 1002, Came: 10}, 0, answer{5, true})
	known(t, Trip{Sent: -1000, Heard: 1000, Back: 1002, Came: -993}, 0, answer{5, true})
	known(t, Trip{Sent: greatest - 7, Heard: -greatest, Back: -greatest + 2, Came: greatest}, 0, answer{5, true})
	known(t, Trip{Sent: -greatest, Heard: greatest - 2, Back: greatest, Came: -greatest + 7}, 0, answer{5, true})
}

func TestP9_1NoTime(t *testing.T) {
	for _, a := range noTimes() {
		for _, ppm := range append(goodRates(), -1, lastRate+1) {
			for _, b := range goodTimes() {
				for _, trip := range []Trip{{a, b, b, b}, {b, a, b, b}, {b, b, a, b}, {b, b, b, a}, {a, b, b, a}, {b, a, a, b}, {a, a, a, a}, {a - 1, b, b, a}, {b, a, a + 1, b}, {a, a, b, b}, {b, b, a, a}} {
					none(t, trip, ppm)
				}
			}
		}
	}
}

// What lies between two times may be no time, too.
func TestP9_1TimesFarApart(t *testing.T) {
	for _, c := range []struct {
		trip Trip
		ppm  int64
		want answer
	}{
		{Trip{-greatest, 0, 0, greatest}, 0, answer{}}, {Trip{-1, 0, 0, greatest}, 0, answer{}}, {Trip{0, 0, 0, greatest}, 0, answer{greatest, true}}, {Trip{-greatest, 0, 0, 0}, 0, answer{greatest, true}},
		{Trip{-greatest, -greatest, greatest, greatest}, 0, answer{}}, {Trip{-greatest, -greatest, greatest, greatest}, lastRate, answer{}},
		{Trip{-1, 0, 1000, greatest}, 0, answer{}}, {Trip{-1, 0, greatest, greatest}, 0, answer{}}, {Trip{0, 0, greatest, greatest}, 0, answer{0, true}},
		{Trip{0, -greatest, greatest, 10}, 0, answer{}}, {Trip{0, -1, greatest, greatest}, 0, answer{}}, {Trip{0, -1, greatest, 0}, lastRate, answer{}}, {Trip{0, 0, greatest, 10}, 0, answer{0, true}}, {Trip{0, -greatest, 0, 10}, lastRate, answer{0, true}},
	} {
		known(t, c.trip, c.ppm, c.want)
	}
}

func TestP9_1BoundThatIsNoTime(t *testing.T) {
	for _, c := range []struct {
		w, h, ppm int64
		want      answer
	}{
		{greatest, 0, 0, answer{greatest, true}}, {greatest, 1, 0, answer{greatest - 1, true}}, {greatest, greatest, 0, answer{0, true}},
		{greatest, 0, 1, answer{}}, {greatest - 1, 0, 1, answer{}}, {greatest / 2, 0, lastRate, answer{greatest, true}}, {greatest/2 + 1, 0, lastRate, answer{}},
		// The most alone is no time; the bound is one.
		{greatest/2 + 1, 2, lastRate, answer{}}, {greatest/2 + 1, 3, lastRate, answer{greatest, true}}, {greatest/2 + 1, 4, lastRate, answer{greatest, true}}, {greatest/2 + 1, 5, lastRate, answer{greatest - 1, true}},
		{greatest, greatest, 100, answer{219902328, true}}, {greatest, greatest, 1, answer{2199024, true}}, {greatest, greatest, lastRate, answer{}}, {greatest, greatest, 250000, answer{586406201482, true}},
		{greatest, 1099514, 1, answer{}}, {greatest, 1099515, 1, answer{greatest, true}}, {greatest, 1099516, 1, answer{greatest - 1, true}},
	} {
		for _, trip := range []Trip{{0, 0, c.h, c.w}, {-c.w, -c.h, 0, 0}, {-c.w / 2, 0, c.h, c.w - c.w/2}, {0, -c.h / 2, c.h - c.h/2, c.w}} {
			known(t, trip, c.ppm, c.want)
		}
	}
}

func TestP9_1NoRate(t *testing.T) {
	for _, ppm := range noRates() {
		for _, trip := range []Trip{{}, {0, 0, 0, 1}, {10, 500, 503, 20}, {7, 7, 7, 7}, {0, 0, 0, greatest}, {20, 0, 0, 10}, {0, 5, 4, 10}, {greatest + 1, 0, 0, 0}} {
			none(t, trip, ppm)
		}
	}
}

func TestP9_1EachRate(t *testing.T) {
	for ppm := int64(-3); ppm <= lastRate+3; ppm++ {
		for _, trip := range []Trip{{}, {-4, 3, 1000010, 2000003}, {0, 0, greatest, greatest}} {
			if got, want := of(Bound(trip, ppm)), model(trip, ppm); got != want {
				t.Errorf("Bound(%v, %d): %v; want %v", trip, ppm, got, want)
			}
		}
	}
}

func TestP9_1EachSmallTrip(t *testing.T) {
	for _, ppm := range []int64{0, 1, 250000, 333333, 333334, lastRate} {
		for n := range int64(8 * 8 * 8 * 8) {
			check(t, Trip{n%8 - 4, n/8%8 - 4, n/64%8 - 4, n/512 - 4}, ppm)
		}
	}
}

func TestP9_1AtTheEdges(t *testing.T) {
	l := append(goodTimes(), noTimes()...)
	r := rand.New(rand.NewSource(9))
	pick := func() int64 { return l[r.Intn(len(l))] }
	for range 50000 {
		check(t, Trip{pick(), pick(), pick(), pick()}, r.Int63n(lastRate+3)-1)
	}
	l = goodTimes()
	for range 100000 {
		check(t, Trip{pick(), pick(), pick(), pick()}, r.Int63n(lastRate+3)-1)
	}
}

func TestP9_1ManyTrips(t *testing.T) {
	r := rand.New(rand.NewSource(99))
	told := map[string]int{}
	for range 50000 {
		ppm := r.Int63n(lastRate + 1)
		if r.Intn(2) == 0 {
			ppm = goodRates()[r.Intn(len(goodRates()))]
		}
		w, h := r.Int63n(greatest)>>r.Intn(40), r.Int63n(greatest)>>r.Intn(40)
		if r.Intn(2) == 0 {
			h = r.Int63n(w + 1)
		}
		a, b := r.Int63n(greatest)-greatest/2, r.Int63n(greatest)-greatest/2
		trip := Trip{a, b, b + h, a + w}
		check(t, trip, ppm)
		told[kindOf(model(trip, ppm))]++
		check(t, Trip{int64(r.Uint64()), int64(r.Uint64()), int64(r.Uint64()), int64(r.Uint64())}, ppm)
	}
	// The trips are such that each kind of answer is told often.
	for _, kind := range []string{"none", "0", "more"} {
		if told[kind] < 300 {
			t.Errorf("%d trips with the answer %s", told[kind], kind)
		}
	}
}

func kindOf(a answer) string {
	switch {
	case !a.ok:
		return "none"
	case a.bound == 0:
		return "0"
	}
	return "more"
}

// What the bound is for: with clocks that run within ppm, no message back was longer on its way.
func TestP9_1NoMessageIsLonger(t *testing.T) {
	r := rand.New(rand.NewSource(999))
	for range 50000 {
		ppm := r.Int63n(lastRate + 1)
		out, held, back := r.Int63n(1000), r.Int63n(1000), r.Int63n(1000)
		// The first clock goes as slow as may be, the other one as fast: the bound is as small as it gets, but for what is not whole.
		w, h := ((out+held+back)*(million-ppm)+million-1)/million, held*(million+ppm)/million
		bound, ok := Bound(Trip{5, -9, h - 9, w + 5}, ppm)
		if !ok || bound < out+back || bound >= out+back+5 {
			t.Errorf("at %d, %d there, held for %d, %d back: %d, %v", ppm, out, held, back, bound, ok)
		}
		// Both go as they like.
		w, h = ticks(r, out+held+back, ppm)+1, ticks(r, held, ppm)
		bound, ok = Bound(Trip{-5, 9, h + 9, w - 5}, ppm)
		if !ok || bound < back || !Fast(Trip{-5, 9, h + 9, w - 5}, ppm, bound) {
			t.Errorf("at %d, %d there, held for %d, %d back: %d, %v", ppm, out, held, back, bound, ok)
		}
	}
}

// ticks are what some clock that runs within ppm counts in that real time.
func ticks(r *rand.Rand, real, ppm int64) int64 {
	return real * (million - ppm + r.Int63n(2*ppm+1)) / million
}

func TestP0_5AnswersAgain(t *testing.T) {
	for range 3 {
		known(t, Trip{10, 500, 503, 20}, 0, answer{7, true})
		known(t, Trip{20, 0, 0, 10}, 0, answer{})
		known(t, Trip{0, 0, 3, 10}, lastRate, answer{18, true})
		known(t, Trip{0, 0, 3, 10}, lastRate+1, answer{})
		known(t, Trip{}, lastRate, answer{0, true})
	}
}

func FuzzDelay(f *testing.F) {
	f.Add(int64(10), int64(500), int64(3), int64(10), int64(0), int64(7))
	f.Add(-greatest, -greatest, greatest, greatest, lastRate, greatest)
	f.Add(int64(math.MinInt64), int64(math.MaxInt64), int64(5), int64(-5), int64(-1), int64(math.MaxInt64))
	f.Fuzz(func(t *testing.T, sent, heard, held, away, ppm, most int64) {
		trip := Trip{sent, heard, heard + held, sent + away}
		check(t, trip, ppm)
		checkFast(t, trip, ppm, most, model(trip, ppm))
	})
}
