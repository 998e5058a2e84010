package cross

import (
	"math"
	"math/rand"
	"slices"
	"testing"
)

const (
	least    = int64(math.MinInt64)
	greatest = int64(math.MaxInt64)
)

type best struct {
	r Range
	n int
}

type most struct {
	r  Range
	ok bool
}

func bestOf(r Range, n int) best { return best{r, n} }

func mostOf(r Range, ok bool) most { return most{r, ok} }

// ranges gives ranges: lows and highs in turn.
func ranges(l ...int64) []Range {
	var out []Range
	for i := 0; i+1 < len(l); i += 2 {
		out = append(out, Range{l[i], l[i+1]})
	}
	return out
}

// edges are the ends of an int64, those of times, and what a narrower number would take for a small one.
func edges() []int64 {
	l := []int64{1 << 31, -1 << 31, 1 << 32, -1 << 32, 1 << 40, -1 << 40, 1<<40 + 1, -1<<40 - 1, 1 << 62, -1 << 62}
	for d := range int64(4) {
		l = append(l, d, -d, greatest-d, least+d)
	}
	return l
}

// noCounts are numbers of ranges that Most is not asked with.
func noCounts() []int {
	return []int{0, -1, -2, -3, -1 << 32, -1<<32 + 1, math.MinInt, math.MinInt + 1}
}

// noRanges have no times.
func noRanges() []Range {
	return ranges(1, 0, 5, 4, 9, -9, -1, -2, 0, -1, greatest, least, greatest, greatest-1, least+1, least, greatest, 0, 0, least, 1, -1)
}

// counted reckons by the words.
func counted(l []Range, at int64) int {
	n := 0
	for _, r := range l {
		if !(at < r.Low) && !(at > r.High) {
			n++
		}
	}
	return n
}

// times are, rising, the first and last ones and those at which, or behind which, a count may change: between two of them it is that of the lesser one.
func times(l []Range) []int64 {
	out := []int64{least, greatest}
	for _, r := range l {
		for _, at := range []int64{r.Low, r.High} {
			out = append(out, at)
			if at > least {
				out = append(out, at-1)
			}
			if at < greatest {
				out = append(out, at+1)
			}
		}
	}
	slices.Sort(out)
	return slices.Compact(out)
}

// model says by the words what Best and Most have to answer, of a list whose counts can change at no other times.
type model struct {
	times  []int64
	counts []int
}

func modelOf(l []Range, times []int64) model {
	m := model{times: times}
	for _, at := range times {
		m.counts = append(m.counts, counted(l, at))
	}
	return m
}

func (m model) best() best {
	n := slices.Max(m.counts)
	if n == 0 {
		return best{}
	}
	i := slices.Index(m.counts, n)
	j := i
	for j+1 < len(m.counts) && m.counts[j+1] == n {
		j++
	}
	return best{Range{m.times[i], m.times[j]}, n}
}

func (m model) most(n int) most {
	var out most
	for i, at := range m.times {
		if n < 1 || m.counts[i] < n {
			continue
		}
		if !out.ok {
			out = most{Range{at, at}, true}
		}
		out.r.High = at
	}
	return out
}

// check holds all three against the model.
func check(t *testing.T, l []Range, times []int64) {
	t.Helper()
	m := modelOf(l, times)
	for i, at := range times {
		if got := Count(l, at); got != m.counts[i] {
			t.Errorf("Count(%v, %d): %d; want %d", l, at, got, m.counts[i])
		}
	}
	if got, want := bestOf(Best(l)), m.best(); got != want {
		t.Errorf("Best(%v): %v; want %v", l, got, want)
	}
	for _, n := range counts(len(l)) {
		if got, want := mostOf(Most(l, n)), m.most(n); got != want {
			t.Errorf("Most(%v, %d): %v; want %v", l, n, got, want)
		}
	}
}

// counts are what Most is asked with of so many ranges: from below 1 to more than there are.
func counts(ranges int) []int {
	var out []int
	for n := -1; n <= min(ranges, 20)+1; n++ {
		out = append(out, n)
	}
	return append(out, ranges, ranges+1, 1<<32, 1<<32+1, math.MaxInt, math.MinInt)
}

// known holds Best and the model against an answer that is written out.
func known(t *testing.T, l []Range, want best) {
	t.Helper()
	if got := modelOf(l, times(l)).best(); got != want {
		t.Errorf("the model of %v: %v; want %v", l, got, want)
	}
	if got := bestOf(Best(l)); got != want {
		t.Errorf("Best(%v): %v; want %v", l, got, want)
	}
	check(t, l, times(l))
}

func TestP10_1Count(t *testing.T) {
	l := ranges(1, 5, 3, 9, 4, 4, 8, 20, 7, 6, 1, 5)
	for at, want := range map[int64]int{-1: 0, 0: 0, 1: 2, 2: 2, 3: 3, 4: 4, 5: 3, 6: 1, 7: 1, 8: 2, 9: 2, 10: 1, 20: 1, 21: 0, least: 0, greatest: 0, 1<<32 + 4: 0} {
		if got := Count(l, at); got != want {
			t.Errorf("Count(%v, %d): %d; want %d", l, at, got, want)
		}
	}
	for _, at := range edges() {
		if got := Count(nil, at); got != 0 {
			t.Errorf("Count(nil, %d): %d", at, got)
		}
		if got := Count(ranges(least, greatest, at, at, at, least, greatest, at), at); got < 2 {
			t.Errorf("Count of what has %d: %d", at, got)
		}
	}
}

func TestP10_1Best(t *testing.T) {
	for _, c := range []struct {
		l    []Range
		want best
	}{
		{nil, best{}}, {ranges(), best{}}, {noRanges(), best{}}, {ranges(5, 4), best{}},
		{ranges(3, 8), best{Range{3, 8}, 1}}, {ranges(0, 0), best{Range{0, 0}, 1}}, {ranges(-3, -3), best{Range{-3, -3}, 1}}, {ranges(-5, 5, -5, 5), best{Range{-5, 5}, 2}},
		{ranges(1, 5, 3, 9), best{Range{3, 5}, 2}}, {ranges(1, 5, 5, 9), best{Range{5, 5}, 2}}, {ranges(1, 9, 3, 4), best{Range{3, 4}, 2}}, {ranges(-9, -1, -4, 7), best{Range{-4, -1}, 2}},
		// The run goes on where one range ends and another one begins.
		{ranges(1, 3, 4, 6), best{Range{1, 6}, 1}}, {ranges(4, 6, 1, 3), best{Range{1, 6}, 1}}, {ranges(1, 3, 4, 4, 5, 9), best{Range{1, 9}, 1}}, {ranges(0, 9, 1, 3, 4, 6), best{Range{1, 6}, 2}},
		{ranges(1, 3, 1, 3, 4, 6, 4, 6), best{Range{1, 6}, 2}}, {ranges(1, 3, 2, 5, 4, 7, 6, 9), best{Range{2, 7}, 2}}, {ranges(-2, -1, 0, 1), best{Range{-2, 1}, 1}},
		// It ends where the count is another one.
		{ranges(1, 3, 5, 6), best{Range{1, 3}, 1}}, {ranges(1, 3, 5, 6, 5, 6), best{Range{5, 6}, 2}}, {ranges(1, 3, 3, 6), best{Range{3, 3}, 2}}, {ranges(1, 3, 1, 3, 4, 6), best{Range{1, 3}, 2}}, {ranges(1, 3, 4, 6, 4, 6), best{Range{4, 6}, 2}},
		{ranges(1, 9, 2, 3, 5, 6, 8, 9), best{Range{2, 3}, 2}}, {ranges(1, 9, 2, 3, 4, 6, 8, 9), best{Range{2, 6}, 2}}, {ranges(1, 5, 1, 3, 5, 9, 5, 7), best{Range{5, 5}, 3}},
		// Several runs have the greatest count: the least one.
		{ranges(20, 30, 1, 2, 10, 12), best{Range{1, 2}, 1}}, {ranges(20, 30, 25, 40, 1, 3, 2, 9), best{Range{2, 3}, 2}}, {ranges(1, 2, -7, -7, 4, 9), best{Range{-7, -7}, 1}},
		// A range without times is passed over, where it lies among others, too.
		{ranges(1, 5, 4, 3, 3, 9, 9, 1), best{Range{3, 5}, 2}}, {append(noRanges(), Range{2, 2}), best{Range{2, 2}, 1}}, {ranges(5, 4, 4, 4), best{Range{4, 4}, 1}}, {ranges(0, 5, greatest, least), best{Range{0, 5}, 1}},
	} {
		known(t, c.l, c.want)
	}
}

func TestP10_1BestAtTheLastNumbers(t *testing.T) {
	for _, c := range []struct {
		l    []Range
		want best
	}{
		{ranges(least, greatest), best{Range{least, greatest}, 1}}, {ranges(least, greatest, least, greatest), best{Range{least, greatest}, 2}},
		{ranges(least, least), best{Range{least, least}, 1}}, {ranges(greatest, greatest), best{Range{greatest, greatest}, 1}}, {ranges(greatest, greatest, least, least), best{Range{least, least}, 1}},
		{ranges(least, 0, 0, greatest), best{Range{0, 0}, 2}}, {ranges(least, 0, 1, greatest), best{Range{least, greatest}, 1}}, {ranges(1, greatest, least, 0), best{Range{least, greatest}, 1}}, {ranges(least, -1, 1, greatest), best{Range{least, -1}, 1}},
		{ranges(greatest-1, greatest-1, greatest, greatest), best{Range{greatest - 1, greatest}, 1}}, {ranges(5, greatest, 9, greatest), best{Range{9, greatest}, 2}}, {ranges(5, greatest, 9, greatest-1), best{Range{9, greatest - 1}, 2}},
		// Behind the greatest number the least one does not begin, though its count is the same.
		{ranges(greatest, greatest, 3, greatest, least, least, least, 2), best{Range{least, least}, 2}}, {ranges(greatest, greatest, 3, greatest, least, 2), best{Range{greatest, greatest}, 2}},
		{ranges(least, greatest, least, 7, 9, greatest), best{Range{least, 7}, 2}}, {ranges(least, greatest, least, 7, 8, greatest), best{Range{least, greatest}, 2}},
	} {
		known(t, c.l, c.want)
	}
}

func TestP10_1Most(t *testing.T) {
	l := ranges(1, 5, 3, 9, 4, 4, 8, 20, 7, 6)
	for _, c := range []struct {
		l    []Range
		n    int
		want most
	}{
		{l, 1, most{Range{1, 20}, true}}, {l, 2, most{Range{3, 9}, true}}, {l, 3, most{Range{4, 4}, true}}, {l, 4, most{}}, {l, 5, most{}}, {l, 6, most{}}, {l, math.MaxInt, most{}}, {l, 1<<32 + 1, most{}},
		{ranges(1, 3, 5, 6), 1, most{Range{1, 6}, true}}, {ranges(5, 6, 1, 3), 1, most{Range{1, 6}, true}}, {ranges(5, 6, 1, 3), 2, most{}}, {ranges(0, 0), 1, most{Range{0, 0}, true}},
		// What lies between need not have them: the least and the greatest time count alone.
		{ranges(1, 4, 3, 9, 20, 30, 28, 40), 2, most{Range{3, 30}, true}}, {ranges(1, 4, 3, 9, 20, 30, 28, 40, 3, 3), 3, most{Range{3, 3}, true}}, {ranges(1, 9, 2, 3, 3, 8, 7, 7), 3, most{Range{3, 7}, true}},
		{ranges(least, 3, 7, greatest), 1, most{Range{least, greatest}, true}}, {ranges(least, 3, 3, greatest), 2, most{Range{3, 3}, true}}, {ranges(least, greatest, least, greatest), 2, most{Range{least, greatest}, true}}, {ranges(greatest, greatest, 5, greatest), 2, most{Range{greatest, greatest}, true}}, {ranges(least, least, least, 5), 2, most{Range{least, least}, true}},
		// Those without times don't count.
		{nil, 1, most{}}, {noRanges(), 1, most{}}, {ranges(5, 4), 1, most{}}, {ranges(5, 4, 4, 5), 1, most{Range{4, 5}, true}}, {ranges(5, 4, 4, 5), 2, most{}}, {append(noRanges(), ranges(2, 8, 8, 9)...), 2, most{Range{8, 8}, true}},
	} {
		if got := mostOf(Most(c.l, c.n)); got != c.want {
			t.Errorf("Most(%v, %d): %v; want %v", c.l, c.n, got, c.want)
		}
		if got := modelOf(c.l, times(c.l)).most(c.n); got != c.want {
			t.Errorf("the model of %v, %d: %v; want %v", c.l, c.n, got, c.want)
		}
	}
}

func TestP10_1MostOfNoCount(t *testing.T) {
	for _, l := range [][]Range{nil, ranges(5, 4), ranges(0, 0), ranges(1, 5, 3, 9, 4, 4), ranges(least, greatest), ranges(7, greatest, least, 9), noRanges()} {
		for _, n := range noCounts() {
			if got := mostOf(Most(l, n)); got != (most{}) {
				t.Errorf("Most(%v, %d): %v; want none", l, n, got)
			}
		}
	}
}

// eachList calls f with each list of so many ranges whose ends are 0 to last; those without times are among them.
func eachList(length int, last int64, f func(l []Range)) {
	l := make([]Range, length)
	var fill func(i int)
	fill = func(i int) {
		if i == length {
			f(l)
			return
		}
		for low := range last + 1 {
			for high := range last + 1 {
				l[i] = Range{low, high}
				fill(i + 1)
			}
		}
	}
	fill(0)
}

// Of each time one asks, none is left out: the model leans on nothing but the words.
func TestP10_1EachSmallList(t *testing.T) {
	for _, c := range []struct {
		length int
		last   int64
	}{{0, 0}, {1, 9}, {2, 6}, {3, 4}, {4, 2}} {
		all := make([]int64, c.last+3)
		for i := range all {
			all[i] = int64(i) - 1
		}
		eachList(c.length, c.last, func(l []Range) { check(t, l, all) })
	}
}

func TestP10_1AtTheEdges(t *testing.T) {
	l := edges()
	r := rand.New(rand.NewSource(10))
	for _, a := range l {
		for _, b := range l {
			one := ranges(a, b)
			check(t, one, times(one))
		}
	}
	for range 20000 {
		some := make([]Range, 2+r.Intn(5))
		for i := range some {
			some[i] = Range{l[r.Intn(len(l))], l[r.Intn(len(l))]}
		}
		check(t, some, times(some))
	}
}

func TestP10_1ManyLists(t *testing.T) {
	r := rand.New(rand.NewSource(1010))
	touched := 0
	for range 5000 {
		wide := int64(1) << (2 + r.Intn(60))
		l := make([]Range, r.Intn(25))
		for i := range l {
			low := r.Int63n(wide) - wide/2
			if i > 0 && r.Intn(4) == 0 {
				low = l[i-1].High + 1
			}
			l[i] = Range{low, low + r.Int63n(wide)/int64(1+r.Intn(8)) - 1}
		}
		m := modelOf(l, times(l))
		check(t, l, m.times)
		// The order of the list says nothing.
		turned := slices.Clone(l)
		r.Shuffle(len(turned), func(i, j int) { turned[i], turned[j] = turned[j], turned[i] })
		if a, b := bestOf(Best(l)), bestOf(Best(turned)); a != b {
			t.Errorf("Best(%v): %v; Best(%v): %v", l, a, turned, b)
		}
		// A run with an end within it is one that goes on.
		if b := m.best(); slices.ContainsFunc(l, func(x Range) bool { return b.r.Low <= x.Low && x.Low <= x.High && x.High < b.r.High }) {
			touched++
		}
	}
	if touched < 300 {
		t.Errorf("%d runs that go on behind an end", touched)
	}
}

// What Best and Most are for: where most clocks are right, the true time lies in what most of them agree on.
func TestP10_1MostAgreeOnTheTruth(t *testing.T) {
	r := rand.New(rand.NewSource(101010))
	for range 20000 {
		clocks := 3 + r.Intn(5)
		right := clocks/2 + 1
		truth := r.Int63n(1<<41) - 1<<40
		l := make([]Range, clocks)
		for i := range l {
			low := truth - r.Int63n(100)
			l[i] = Range{low, truth + r.Int63n(100)}
			if i >= right {
				l[i] = Range{low + r.Int63n(400) - 200, low + r.Int63n(400) - 200}
			}
		}
		r.Shuffle(clocks, func(i, j int) { l[i], l[j] = l[j], l[i] })
		got, ok := Most(l, right)
		if !ok || truth < got.Low || truth > got.High {
			t.Errorf("Most(%v, %d): %v, %v; %d is in %d", l, right, got, ok, truth, right)
		}
		run, n := Best(l)
		if n < right || n < Count(l, truth) || run.Low < got.Low || run.High > got.High {
			t.Errorf("Best(%v): %v, %d; %d have %v", l, run, n, right, got)
		}
	}
}

func TestP0_1LongLists(t *testing.T) {
	const n = 200000
	var nested, chain, alone, same, none []Range
	for i := range int64(n) {
		nested = append(nested, Range{i, 3*n - i})
		chain = append(chain, Range{2 * i, 2*i + 1})
		alone = append(alone, Range{-3 * i, 1 - 3*i})
		same = append(same, Range{-5, greatest})
		none = append(none, Range{i, i - 1})
	}
	for _, c := range []struct {
		l      []Range
		want   best
		ask    int
		answer most
	}{
		{nested, best{Range{n - 1, 2*n + 1}, n}, n / 2, most{Range{n/2 - 1, 3*n - n/2 + 1}, true}},
		{chain, best{Range{0, 2*n - 1}, 1}, 1, most{Range{0, 2*n - 1}, true}},
		{alone, best{Range{3 - 3*n, 4 - 3*n}, 1}, 1, most{Range{3 - 3*n, 1}, true}},
		{same, best{Range{-5, greatest}, n}, n, most{Range{-5, greatest}, true}},
		{none, best{}, 1, most{}},
		{chain, best{Range{0, 2*n - 1}, 1}, 2, most{}},
	} {
		if got := bestOf(Best(c.l)); got != c.want {
			t.Errorf("Best of %v, ..: %v; want %v", c.l[:3], got, c.want)
		}
		if got := mostOf(Most(c.l, c.ask)); got != c.answer {
			t.Errorf("Most of %v, .., %d: %v; want %v", c.l[:3], c.ask, got, c.answer)
		}
		if got, want := Count(c.l, c.want.r.Low), c.want.n; c.want.n > 0 && got != want {
			t.Errorf("Count of %v, .., %d: %d; want %d", c.l[:3], c.want.r.Low, got, want)
		}
	}
}

func TestP0_3ListsStay(t *testing.T) {
	whole := ranges(9, 20, 5, 4, 1, 9, 3, 7, 40, 30, -8, -9, 100, 200)
	was := slices.Clone(whole)
	l := whole[:4]
	Count(l, 5)
	Best(l)
	for n := range 4 {
		Most(l, n)
	}
	if !slices.Equal(whole, was) {
		t.Errorf("a list of %v is %v now", was, whole)
	}
}

func TestP0_4NilIsEmpty(t *testing.T) {
	for _, l := range [][]Range{nil, {}, make([]Range, 0, 9)} {
		if n := Count(l, 0); n != 0 {
			t.Errorf("Count of %#v: %d", l, n)
		}
		if got := bestOf(Best(l)); got != (best{}) {
			t.Errorf("Best of %#v: %v", l, got)
		}
		for _, n := range counts(0) {
			if got := mostOf(Most(l, n)); got != (most{}) {
				t.Errorf("Most of %#v, %d: %v", l, n, got)
			}
		}
	}
}

func TestP0_5AnswersAgain(t *testing.T) {
	for range 3 {
		check(t, ranges(1, 5, 3, 9, 4, 4), times(ranges(1, 5, 3, 9, 4, 4)))
		known(t, nil, best{})
		known(t, ranges(1, 3, 4, 6), best{Range{1, 6}, 1})
		known(t, ranges(6, 3), best{})
	}
}

func FuzzCross(f *testing.F) {
	f.Add(int64(1), int64(5), int64(3), int64(9), int64(4), int64(4), int64(8), int64(20))
	f.Add(least, int64(0), int64(1), greatest, greatest, least, greatest, greatest)
	f.Add(int64(1), int64(3), int64(4), int64(6), int64(7), int64(7), int64(1), int64(7))
	f.Fuzz(func(t *testing.T, a, b, c, d, e, g, h, i int64) {
		l := ranges(a, b, c, d, e, g, h, i)
		check(t, l, times(l))
	})
}
