package tally

import (
	"math"
	"math/rand"
	"sync"
	"testing"
)

const last = 15 // the greatest kind

// wrong are kinds that there are none of: those next to the bounds, and those that a narrower number would take for good ones.
func wrong() []int {
	l := []int{math.MaxInt, math.MinInt, math.MaxInt - 1, math.MinInt + 1, math.MinInt + 3}
	for d := 1; d <= 20; d++ {
		l = append(l, last+d, -d)
	}
	for _, far := range []int{1 << 8, 1 << 16, 1 << 31, 1 << 32, 1 << 62} {
		l = append(l, far-1, far, far+3, -far, -far+3)
	}
	return l
}

// model counts by the words of the chapter.
type model map[int]int64

func (m model) add(kind int) int64 {
	if kind < 0 || kind > last {
		return 0
	}
	m[kind]++
	return m[kind]
}

func (m model) sum() int64 {
	n := int64(0)
	for _, c := range m {
		n += c
	}
	return n
}

// check holds all that a tally tells against the model.
func check(t *testing.T, x *Tally, m model) {
	t.Helper()
	for kind := -20; kind <= last+20; kind++ {
		if got := x.Get(kind); got != m[kind] {
			t.Errorf("Get(%d): %d; want %d", kind, got, m[kind])
		}
	}
	if got := x.Sum(); got != m.sum() {
		t.Errorf("Sum: %d; want %d", got, m.sum())
	}
}

// atOnce calls work n times at once, and comes back when all are through.
func atOnce(n int, work func(i int)) {
	var all sync.WaitGroup
	for i := range n {
		all.Go(func() { work(i) })
	}
	all.Wait()
}

func TestP5_1ZeroTally(t *testing.T) {
	var x Tally
	check(t, &x, model{})
	check(t, new(Tally), model{})
	if got := x.Reset(); got != 0 {
		t.Errorf("Reset: %d; want 0", got)
	}
}

func TestP5_1AddEachKind(t *testing.T) {
	var x Tally
	m := model{}
	for kind := 0; kind <= last; kind++ {
		for range kind + 1 {
			if got, want := x.Add(kind), m.add(kind); got != want {
				t.Errorf("Add(%d): %d; want %d", kind, got, want)
			}
		}
		check(t, &x, m)
	}
	if got := x.Sum(); got != 136 {
		t.Errorf("Sum: %d; want 136", got)
	}
}

func TestP5_1WrongKinds(t *testing.T) {
	var x Tally
	m := model{}
	for kind := 0; kind <= last; kind++ {
		x.Add(kind)
		m.add(kind)
	}
	for _, kind := range wrong() {
		for range 2 {
			if got := x.Add(kind); got != 0 {
				t.Errorf("Add(%d): %d; want 0", kind, got)
			}
		}
		if got := x.Get(kind); got != 0 {
			t.Errorf("Get(%d): %d; want 0", kind, got)
		}
	}
	check(t, &x, m)
}

func TestP5_1Reset(t *testing.T) {
	var x Tally
	for round := range 3 {
		want := int64(0)
		for kind := 0; kind <= last; kind++ {
			for range kind + round {
				x.Add(kind)
				want++
			}
		}
		if got := x.Reset(); got != want {
			t.Errorf("Reset: %d; want %d", got, want)
		}
		check(t, &x, model{})
		if got := x.Reset(); got != 0 {
			t.Errorf("Reset again: %d; want 0", got)
		}
	}
	if got := x.Add(last); got != 1 {
		t.Errorf("Add(%d) after a Reset: %d; want 1", last, got)
	}
	check(t, &x, model{last: 1})
}

func TestP5_1Nil(t *testing.T) {
	var x *Tally
	for _, kind := range append(wrong(), 0, 1, 7, last) {
		if got := x.Add(kind); got != 0 {
			t.Errorf("Add(%d) of nil: %d; want 0", kind, got)
		}
		if got := x.Get(kind); got != 0 {
			t.Errorf("Get(%d) of nil: %d; want 0", kind, got)
		}
	}
	if got := x.Sum(); got != 0 {
		t.Errorf("Sum of nil: %d; want 0", got)
	}
	if got := x.Reset(); got != 0 {
		t.Errorf("Reset of nil: %d; want 0", got)
	}
}

func TestP5_1ManySteps(t *testing.T) {
	r := rand.New(rand.NewSource(5))
	for range 200 {
		var x Tally
		m := model{}
		for range 300 {
			switch kind := r.Intn(22) - 3; r.Intn(40) {
			case 0:
				if got, want := x.Reset(), m.sum(); got != want {
					t.Errorf("Reset: %d; want %d", got, want)
				}
				clear(m)
			case 1:
				check(t, &x, m)
			default:
				if got, want := x.Add(kind), m.add(kind); got != want {
					t.Errorf("Add(%d): %d; want %d", kind, got, want)
				}
			}
		}
		check(t, &x, m)
	}
}

// A count goes on beyond what a number of 16 bits holds.
func TestP5_1ManyOfAKind(t *testing.T) {
	const n = 1 << 20
	var x Tally
	for i := range int64(n) {
		if got := x.Add(4); got != i+1 {
			t.Fatalf("Add(4): %d; want %d", got, i+1)
		}
	}
	check(t, &x, model{4: n})
}

func TestP5_1ManyCountAtOnce(t *testing.T) {
	const workers, rounds = 16, 2000
	var x Tally
	atOnce(workers, func(i int) {
		for range rounds {
			x.Add(7)
			x.Add(i)
			x.Add(-1 - i)
		}
	})
	m := model{}
	for i := range workers {
		m[i] = rounds
	}
	m[7] += workers * rounds
	check(t, &x, m)
}

// Each of those who count one kind at once is told another number: each from 1 to the last is told once.
func TestP5_1EachIsToldItsOwnNumber(t *testing.T) {
	const workers, rounds = 8, 3000
	var x Tally
	told := make([][]int64, workers)
	atOnce(workers, func(i int) {
		for range rounds {
			told[i] = append(told[i], x.Add(last))
		}
	})
	seen := map[int64]int{}
	for _, l := range told {
		for _, n := range l {
			seen[n]++
		}
	}
	for n := int64(1); n <= workers*rounds; n++ {
		if seen[n] != 1 {
			t.Fatalf("%d was told %d times", n, seen[n])
		}
	}
}

// What is counted while all are set back is in one of the sums that were, or is still there.
func TestP5_1NothingIsLostByAReset(t *testing.T) {
	const workers, rounds = 8, 5000
	var x Tally
	sums := make([]int64, workers)
	atOnce(2*workers, func(i int) {
		for range rounds {
			if i < workers {
				x.Add(i % 2 * last)
			} else {
				sums[i-workers] += x.Reset()
			}
		}
	})
	all := x.Sum()
	for _, n := range sums {
		all += n
	}
	if all != workers*rounds {
		t.Errorf("%d were counted; want %d", all, workers*rounds)
	}
}

// Who asks while others count is told no less than before, and no more than there is in the end.
func TestP5_1AskedWhileOthersCount(t *testing.T) {
	const workers, rounds = 4, 3000
	var x Tally
	atOnce(2*workers, func(i int) {
		sum, count := int64(0), int64(0)
		for range rounds {
			if i < workers {
				x.Add(i)
				continue
			}
			s, c := x.Sum(), x.Get(1)
			if s < sum || s > workers*rounds || c < count || c > rounds {
				t.Errorf("Sum %d, then %d; Get %d, then %d", sum, s, count, c)
				return
			}
			sum, count = s, c
		}
	})
}

func TestP0_5TalliesShareNothing(t *testing.T) {
	var x, y Tally
	x.Add(2)
	x.Add(2)
	y.Add(3)
	check(t, &x, model{2: 2})
	check(t, &y, model{3: 1})
	x.Reset()
	check(t, &y, model{3: 1})
}

func TestP0_5AskingChangesNothing(t *testing.T) {
	var x Tally
	x.Add(2)
	for range 3 {
		check(t, &x, model{2: 1})
	}
	if got := x.Add(2); got != 2 {
		t.Errorf("Add(2): %d; want 2", got)
	}
}

func FuzzTally(f *testing.F) {
	f.Add(3, []byte{0, 3, 15, 16, 255, 3})
	f.Add(-1, []byte{254, 254, 7})
	f.Fuzz(func(t *testing.T, kind int, steps []byte) {
		var x Tally
		m := model{}
		for _, s := range steps {
			if s == 255 {
				if got, want := x.Reset(), m.sum(); got != want {
					t.Errorf("Reset: %d; want %d", got, want)
				}
				clear(m)
				continue
			}
			k := int(s % 18)
			if s == 254 {
				k = kind
			}
			if got, want := x.Add(k), m.add(k); got != want {
				t.Errorf("Add(%d): %d; want %d", k, got, want)
			}
		}
		check(t, &x, m)
	})
}
