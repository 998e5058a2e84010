package span

import (
	"math"
	"math/big"
	"math/rand"
	"testing"
)

const (
	most    = int64(1) << 40
	million = int64(1000000)
)

type answered struct {
	n  int64
	ok bool
}

func of(n int64, ok bool) answered { return answered{n, ok} }

// edges are times and numbers that are none: small ones, those about the bounds, and those that wrap when reckoned with.
func edges() []int64 {
	var l []int64
	for _, mid := range []int64{0, 10, 1000, million, most / 3, most / 2, most, 2 * most, 1 << 43, 1 << 44, 1 << 62} {
		for d := int64(-3); d <= 3; d++ {
			l = append(l, mid+d, -mid+d)
		}
	}
	for d := range int64(4) {
		l = append(l, math.MaxInt64-d, math.MinInt64+d, math.MaxInt64-most+d-2, math.MinInt64+most+d-2)
	}
	return l
}

// rates are ppm, good and bad ones.
func rates() []int64 {
	l := []int64{0, 1, 2, 3, 10, 50, 99, 100, 101, 1000, 200000, 250000, 333333, 499998, 499999, 500000}
	l = append(l, 500001, 500002, 999999, 1000000, 1000001, 1<<32, 1<<32+1, -1, -2, -100, -500000, -999999, -1000000, -1000001)
	return append(l, math.MaxInt64, math.MinInt64, math.MaxInt64-million, math.MinInt64+million)
}

// within reckons by the words, with numbers that have no bound, whether an answer is a time.
func within(n *big.Int) answered {
	if n.CmpAbs(big.NewInt(most)) > 0 {
		return answered{}
	}
	return answered{n.Int64(), true}
}

func isNoTime(a int64) bool { return a < -most || a > most }

func sum(a, b int64) answered {
	if isNoTime(a) || isNoTime(b) {
		return answered{}
	}
	return within(new(big.Int).Add(big.NewInt(a), big.NewInt(b)))
}

func difference(a, b int64) answered {
	if isNoTime(a) || isNoTime(b) {
		return answered{}
	}
	return within(new(big.Int).Sub(big.NewInt(a), big.NewInt(b)))
}

// part is a up / down, the next whole number below, or above.
func part(a, ppm, up, down int64, above bool) answered {
	if a < 0 || a > most || ppm < 0 || ppm > 500000 {
		return answered{}
	}
	n, rest := new(big.Int).DivMod(new(big.Int).Mul(big.NewInt(a), big.NewInt(up)), big.NewInt(down), new(big.Int))
	if above && rest.Sign() != 0 {
		n.Add(n, big.NewInt(1))
	}
	return within(n)
}

func longest(a, ppm int64) answered { return part(a, ppm, million+ppm, million-ppm, true) }

func shortest(a, ppm int64) answered { return part(a, ppm, million-ppm, million+ppm, false) }

func checkSums(t *testing.T, a, b int64) {
	t.Helper()
	if got, want := of(Add(a, b)), sum(a, b); got != want {
		t.Errorf("Add(%d, %d): %v; want %v", a, b, got, want)
	}
	if got, want := of(Sub(a, b)), difference(a, b); got != want {
		t.Errorf("Sub(%d, %d): %v; want %v", a, b, got, want)
	}
}

func checkDrifts(t *testing.T, a, ppm int64) {
	t.Helper()
	if got, want := of(Most(a, ppm)), longest(a, ppm); got != want {
		t.Errorf("Most(%d, %d): %v; want %v", a, ppm, got, want)
	}
	if got, want := of(Least(a, ppm)), shortest(a, ppm); got != want {
		t.Errorf("Least(%d, %d): %v; want %v", a, ppm, got, want)
	}
}

func TestP4_1AddKnown(t *testing.T) {
	for _, c := range []struct {
		a, b int64
		want answered
	}{
		{0, 0, answered{0, true}}, {2, 3, answered{5, true}}, {-2, 3, answered{1, true}}, {-2, -3, answered{-5, true}}, {7, -7, answered{0, true}},
		{most, 0, answered{most, true}}, {0, -most, answered{-most, true}}, {most - 1, 1, answered{most, true}}, {1 - most, -1, answered{-most, true}}, {most, -most, answered{0, true}},
		// The answer is no time.
		{most, 1, answered{}}, {1, most, answered{}}, {-most, -1, answered{}}, {most, most, answered{}}, {-most, -most, answered{}},
		// One of the two is no time, though the answer would be one.
		{most + 1, -5, answered{}}, {-5, most + 1, answered{}}, {-most - 1, 5, answered{}}, {5, -most - 1, answered{}}, {most + 1, -most - 1, answered{}}, {math.MaxInt64, -math.MaxInt64, answered{}},
		// The sum wraps.
		{math.MaxInt64, 1, answered{}}, {math.MaxInt64, math.MaxInt64, answered{}}, {math.MinInt64, math.MinInt64, answered{}}, {math.MinInt64, -1, answered{}},
	} {
		if got := of(Add(c.a, c.b)); got != c.want {
			t.Errorf("Add(%d, %d): %v; want %v", c.a, c.b, got, c.want)
		}
	}
}

func TestP4_1SubKnown(t *testing.T) {
	for _, c := range []struct {
		a, b int64
		want answered
	}{
		{0, 0, answered{0, true}}, {2, 3, answered{-1, true}}, {3, 2, answered{1, true}}, {-2, -3, answered{1, true}}, {-1, -1, answered{0, true}},
		{-most, 0, answered{-most, true}}, {0, -most, answered{most, true}}, {0, most, answered{-most, true}}, {most, most, answered{0, true}}, {-1, most - 1, answered{-most, true}},
		// The answer is no time.
		{most, -1, answered{}}, {-most, 1, answered{}}, {-1, most, answered{}}, {most, -most, answered{}}, {-most, most, answered{}},
		// One of the two is no time, though the answer would be one.
		{most + 1, 5, answered{}}, {5, most + 1, answered{}}, {-most - 1, -5, answered{}}, {most + 1, most + 1, answered{}}, {math.MinInt64, math.MinInt64, answered{}},
		// The difference wraps.
		{math.MinInt64, 1, answered{}}, {math.MaxInt64, -1, answered{}}, {0, math.MinInt64, answered{}}, {-2, math.MaxInt64, answered{}},
	} {
		if got := of(Sub(c.a, c.b)); got != c.want {
			t.Errorf("Sub(%d, %d): %v; want %v", c.a, c.b, got, c.want)
		}
	}
}

func TestP4_1MostKnown(t *testing.T) {
	for _, c := range []struct {
		a, ppm int64
		want   answered
	}{
		{0, 0, answered{0, true}}, {0, 1, answered{0, true}}, {0, 500000, answered{0, true}},
		{1, 0, answered{1, true}}, {1, 1, answered{2, true}}, {1, 500000, answered{3, true}}, {10, 500000, answered{30, true}},
		{1000, 0, answered{1000, true}}, {1000, 100, answered{1001, true}}, {1000000, 100, answered{1000201, true}},
		// A whole answer stays: 999,999 parts of 1,000,001 to 999,999.
		{999999, 1, answered{1000001, true}}, {999998, 1, answered{1000000, true}}, {1000000, 1, answered{1000003, true}},
		{most, 0, answered{most, true}}, {most / 3, 500000, answered{most / 3 * 3, true}}, {most - 2199022, 1, answered{most, true}}, {most - 2199023, 1, answered{most - 1, true}},
		// The answer is no time.
		{most, 1, answered{}}, {most/3 + 1, 500000, answered{}}, {most - 2199021, 1, answered{}}, {most, 500000, answered{}},
		// What comes in is wrong.
		{-1, 0, answered{}}, {-1, 500000, answered{}}, {most + 1, 0, answered{}}, {-most, 1, answered{}}, {math.MinInt64, 0, answered{}}, {math.MaxInt64, 0, answered{}},
		{1, -1, answered{}}, {0, -1, answered{}}, {1, 500001, answered{}}, {0, 500001, answered{}}, {0, 1000000, answered{}}, {1, 1000000, answered{}}, {1, math.MinInt64, answered{}}, {1, math.MaxInt64, answered{}},
	} {
		if got := of(Most(c.a, c.ppm)); got != c.want {
			t.Errorf("Most(%d, %d): %v; want %v", c.a, c.ppm, got, c.want)
		}
	}
}

func TestP4_1LeastKnown(t *testing.T) {
	for _, c := range []struct {
		a, ppm int64
		want   answered
	}{
		{0, 0, answered{0, true}}, {0, 500000, answered{0, true}},
		{1, 0, answered{1, true}}, {1, 1, answered{0, true}}, {2, 500000, answered{0, true}}, {3, 500000, answered{1, true}}, {10, 500000, answered{3, true}},
		{1000, 0, answered{1000, true}}, {1000, 100, answered{999, true}}, {1000000, 100, answered{999800, true}},
		{1000001, 1, answered{999999, true}}, {1000000, 1, answered{999998, true}}, {1000002, 1, answered{999999, true}},
		{most, 0, answered{most, true}}, {most, 500000, answered{most / 3, true}},
		// What comes in is wrong.
		{-1, 0, answered{}}, {-1, 500000, answered{}}, {-3, 500000, answered{}}, {most + 1, 0, answered{}}, {most + 1, 3, answered{}}, {most + 1, 500000, answered{}}, {-most, 1, answered{}}, {math.MinInt64, 0, answered{}}, {math.MaxInt64, 0, answered{}},
		{1, -1, answered{}}, {0, -1, answered{}}, {1, 500001, answered{}}, {0, 500001, answered{}}, {1, 1000000, answered{}}, {1, -1000000, answered{}}, {1, math.MinInt64, answered{}}, {1, math.MaxInt64, answered{}},
	} {
		if got := of(Least(c.a, c.ppm)); got != c.want {
			t.Errorf("Least(%d, %d): %v; want %v", c.a, c.ppm, got, c.want)
		}
	}
}

func TestP4_1Edges(t *testing.T) {
	for _, a := range edges() {
		for _, b := range edges() {
			checkSums(t, a, b)
		}
		for _, ppm := range rates() {
			checkDrifts(t, a, ppm)
		}
	}
}

func TestP4_1SmallTimes(t *testing.T) {
	for a := int64(-2); a <= 2000; a++ {
		for _, ppm := range rates() {
			checkDrifts(t, a, ppm)
		}
	}
	for a := int64(-60); a <= 60; a++ {
		for b := int64(-60); b <= 60; b++ {
			checkSums(t, a, b)
		}
	}
}

// The greatest a for which Most has an answer, at every rate: there the bound of the answer bites.
func TestP4_1MostBound(t *testing.T) {
	for ppm := int64(0); ppm <= 500000; ppm += 97 {
		last := shortest(most, ppm).n
		for a := last - 2; a <= min(last+2, most); a++ {
			checkDrifts(t, a, ppm)
		}
		if _, ok := Most(last, ppm); !ok {
			t.Errorf("Most(%d, %d): false", last, ppm)
		}
		if _, ok := Most(last+1, ppm); ok {
			t.Errorf("Most(%d, %d): true", last+1, ppm)
		}
	}
}

func TestP4_1EveryRate(t *testing.T) {
	for ppm := int64(-5); ppm <= 500005; ppm++ {
		checkDrifts(t, 1000003, ppm)
	}
}

func TestP4_1ManyTimes(t *testing.T) {
	r := rand.New(rand.NewSource(4))
	for range 100000 {
		checkSums(t, r.Int63n(4*most)-2*most, r.Int63n(4*most)-2*most)
		checkSums(t, int64(r.Uint64()), int64(r.Uint64()))
		checkDrifts(t, r.Int63n(most+1)>>r.Intn(40), r.Int63n(500001))
		checkDrifts(t, int64(r.Uint64()), int64(r.Uint64()))
	}
}

func TestP0_5AnswersAgain(t *testing.T) {
	for range 2 {
		for _, a := range edges() {
			checkSums(t, a, 1)
			checkDrifts(t, a, 100)
		}
	}
}

func FuzzSpan(f *testing.F) {
	f.Add(int64(1000), int64(100))
	f.Add(most, int64(500000))
	f.Add(int64(math.MinInt64), int64(math.MaxInt64))
	f.Fuzz(func(t *testing.T, a, b int64) {
		checkSums(t, a, b)
		checkDrifts(t, a, b)
	})
}
