package team

import (
	"math"
	"math/big"
	"slices"
	"testing"
)

// strangers are numbers that no process has, small and huge: some of them would hit a process's bit if a shift wrapped.
func strangers() []int {
	l := []int{0, -1, -2, -7, -8, 8, 9, 32, 33, 63, 64, 65, 71, 128, 129, 256, 257, 1 << 32, 1<<32 + 1, -1 << 32, -1<<32 + 1, -63, -64, -255}
	return append(l, math.MaxInt, math.MaxInt-1, math.MinInt, math.MinInt+1, math.MinInt+3)
}

// others are bits that say nothing, as a team may come with them.
func others() []Team {
	return []Team{0, 128, 256, 128 | 1<<20, 1 << 31, 1 << 32, 1 << 62, math.MinInt, math.MinInt | 128, -128, math.MaxInt - 127}
}

// badCounts are numbers of processes that there are not.
func badCounts() []int { return append(strangers(), 1, 2) }

// has reckons by the words which processes 1 to 7 t has.
func has(t Team, id int) bool {
	for range id - 1 {
		t >>= 1
	}
	return t&1 == 1
}

// list is has for all of them.
func list(t Team) []int {
	var l []int
	for id := 1; id <= 7; id++ {
		if has(t, id) {
			l = append(l, id)
		}
	}
	return l
}

// each calls f with every team of 1 to 7, with and without bits that say nothing.
func each(f func(t Team)) {
	for _, more := range others() {
		for t := range Team(128) {
			f(t | more)
		}
	}
}

func TestP3_1OfKnown(t *testing.T) {
	for _, c := range []struct {
		ids  []int
		want Team
	}{
		{nil, 0}, {[]int{}, 0}, {[]int{1}, 1}, {[]int{2}, 2}, {[]int{3}, 4}, {[]int{4}, 8}, {[]int{5}, 16}, {[]int{6}, 32}, {[]int{7}, 64},
		{[]int{1, 2, 3}, 7}, {[]int{3, 2, 1}, 7}, {[]int{5, 5, 5}, 16}, {[]int{7, 1, 7, 1}, 65}, {[]int{1, 2, 3, 4, 5, 6, 7}, 127},
		{[]int{0}, 0}, {[]int{8}, 0}, {[]int{0, 1, 8, 7, -1}, 65}, {strangers(), 0}, {append(strangers(), 4), 8},
	} {
		if got := Of(c.ids...); got != c.want {
			t.Errorf("Of(%v): %d; want %d", c.ids, got, c.want)
		}
	}
}

func TestP3_1OfList(t *testing.T) {
	for x := range Team(128) {
		falling := x.List()
		slices.Reverse(falling)
		if Of(x.List()...) != x || Of(falling...) != x || Of(append(falling, strangers()...)...) != x {
			t.Errorf("Of(%v) is not %d", falling, x)
		}
	}
}

func TestP3_1OfManyIds(t *testing.T) {
	ids := make([]int, 1<<20)
	for i := range ids {
		ids[i] = 2*(i%4) + 1
	}
	if got := Of(ids...); got != 1|4|16|64 {
		t.Errorf("Of many: %d", got)
	}
}

func TestP3_1Has(t *testing.T) {
	each(func(x Team) {
		for id := 1; id <= 7; id++ {
			if x.Has(id) != has(x, id) {
				t.Errorf("%d has %d: %v", x, id, x.Has(id))
			}
		}
		for _, id := range strangers() {
			if x.Has(id) {
				t.Errorf("%d has %d", x, id)
			}
		}
	})
}

func TestP3_1WithWithout(t *testing.T) {
	each(func(x Team) {
		for id := 1; id <= 7; id++ {
			bit := Team(1) << (id - 1)
			if got := x.With(id); got != x|bit {
				t.Errorf("%d with %d: %d", x, id, got)
			}
			if got := x.Without(id); got != x&^bit {
				t.Errorf("%d without %d: %d", x, id, got)
			}
		}
		for _, id := range strangers() {
			if x.With(id) != x || x.Without(id) != x {
				t.Errorf("%d with and without %d: %d, %d", x, id, x.With(id), x.Without(id))
			}
		}
	})
}

func TestP3_1LenList(t *testing.T) {
	each(func(x Team) {
		if want := list(x); !slices.Equal(x.List(), want) || x.Len() != len(want) {
			t.Errorf("%d: %v, %d; want %v", x, x.List(), x.Len(), want)
		}
	})
	if l := Team(-1).List(); !slices.Equal(l, []int{1, 2, 3, 4, 5, 6, 7}) || Team(-1).Len() != 7 {
		t.Errorf("-1: %v, %d", l, Team(-1).Len())
	}
}

func TestP3_1And(t *testing.T) {
	for x := range Team(128) {
		for y := range Team(128) {
			both := x.And(y)
			for id := 1; id <= 7; id++ {
				if both.Has(id) != (has(x, id) && has(y, id)) {
					t.Errorf("%d and %d: %d", x, y, both)
				}
			}
			if both != Of(both.List()...) {
				t.Errorf("%d and %d has further bits: %d", x, y, both)
			}
		}
	}
	each(func(x Team) {
		if x.And(0) != 0 || x.And(127) != Of(x.List()...) || Team(85).And(x) != x.And(85) || x.And(x) != x {
			t.Errorf("%d and others", x)
		}
	})
}

func TestP3_1MayMost(t *testing.T) {
	for n := 3; n <= 7; n++ {
		each(func(x Team) {
			within := x>>n == 0
			if May(x, n) != within {
				t.Errorf("May(%d, %d): %v", x, n, May(x, n))
			}
			if want := within && 2*len(list(x)) > n; Most(x, n) != want {
				t.Errorf("Most(%d, %d): %v", x, n, Most(x, n))
			}
		})
	}
}

func TestP3_1MostKnown(t *testing.T) {
	for n, least := range map[int]int{3: 2, 4: 3, 5: 3, 6: 4, 7: 4} {
		var x Team
		for id := n; id >= 1; id-- {
			if Most(x, n) {
				t.Errorf("%v are most of %d", x.List(), n)
			}
			if x = x.With(id); x.Len() == least {
				break
			}
		}
		if !Most(x, n) || Most(x.With(n+1), n) != (n == 7) {
			t.Errorf("%v of %d: %v", x.List(), n, Most(x, n))
		}
	}
}

func TestP3_1MayMostOfNoCount(t *testing.T) {
	for _, n := range badCounts() {
		each(func(x Team) {
			if May(x, n) || Most(x, n) {
				t.Errorf("%d of %d", x, n)
			}
		})
	}
}

// decider reckons by the words, with numbers of any size.
func decider(view int64, n int) int {
	x := new(big.Int).Sub(big.NewInt(view), big.NewInt(1))
	return 1 + int(x.Mod(x, big.NewInt(int64(n))).Int64())
}

func TestP3_1Decider(t *testing.T) {
	views := []int64{1 << 31, 1<<31 + 1, 1<<32 - 1, 1 << 32, 1<<32 + 1, 1<<40 - 1, 1 << 40, 1<<40 + 1, math.MaxInt64, math.MaxInt64 - 1, math.MaxInt64 - 6}
	for view := range int64(100) {
		views = append(views, view+1)
	}
	for n := 3; n <= 7; n++ {
		for _, view := range views {
			if got := Decider(view, n); got != decider(view, n) {
				t.Errorf("Decider(%d, %d): %d; want %d", view, n, got, decider(view, n))
			}
		}
		for id := 1; id <= n; id++ {
			if Decider(int64(id), n) != id || Decider(int64(id+n), n) != id {
				t.Errorf("view %d of %d is decided by %d", id, n, Decider(int64(id), n))
			}
		}
	}
}

func TestP3_1NoDecider(t *testing.T) {
	for n := 3; n <= 7; n++ {
		for _, view := range []int64{0, -1, -2, -3, -6, -7, -1 << 40, math.MinInt64, math.MinInt64 + 1} {
			if got := Decider(view, n); got != 0 {
				t.Errorf("Decider(%d, %d): %d", view, n, got)
			}
		}
	}
	for _, n := range badCounts() {
		for _, view := range []int64{1, 2, 7, 8, 1 << 40, math.MaxInt64, 0, -1, math.MinInt64} {
			if got := Decider(view, n); got != 0 {
				t.Errorf("Decider(%d, %d): %d", view, n, got)
			}
		}
	}
}

func TestP0_3OfLeavesItsListAlone(t *testing.T) {
	room := []int{3, 0, 9, 1, 42, 42}
	x := Of(room[:4]...)
	if !slices.Equal(room, []int{3, 0, 9, 1, 42, 42}) {
		t.Errorf("Of turned its list into %v", room)
	}
	room[0] = 2
	if x != 1|4 {
		t.Errorf("Of's answer turned into %d", x)
	}
}

func TestP0_3ListIsNewMemory(t *testing.T) {
	x := Of(2, 4, 5)
	first, second := x.List(), x.List()
	all := first[:cap(first)]
	for i := range all {
		all[i] = 99
	}
	if !slices.Equal(second, []int{2, 4, 5}) || !slices.Equal(x.List(), []int{2, 4, 5}) {
		t.Errorf("two lists share memory: %v, %v", second, x.List())
	}
}

func TestP0_4NilIsEmpty(t *testing.T) {
	if Of(nil...) != 0 || Of([]int{}...) != 0 || Of() != 0 {
		t.Errorf("Of of nothing: %d, %d, %d", Of(nil...), Of([]int{}...), Of())
	}
	if l := Team(0).List(); len(l) != 0 {
		t.Errorf("0: %v", l)
	}
}
