package once

import (
	"errors"
	"math"
	"runtime"
	"slices"
	"sync"
	"testing"
	"time"
)

const greatest = 64 // cells of a pool, at most

// samples are lists that a make may give.
func samples() [][]int64 {
	l := [][]int64{nil, {}, {0}, {7}, {1, 2, 3}, {math.MinInt64, -1, math.MaxInt64}, make([]int64, 5, 50), make([]int64, 0, 9)}
	for _, n := range []int{8, 63, 64, 65, 1000, 1 << 16} {
		long := make([]int64, n)
		for i := range long {
			long[i] = int64(i)*int64(i) - 3
		}
		l = append(l, long)
	}
	return l
}

// giver gives a list, and counts how often it was asked.
type giver struct {
	list  []int64
	asked int
}

func (g *giver) give() []int64 {
	g.asked++
	return g.list
}

func (g *giver) was(t *testing.T, times int) {
	t.Helper()
	if g.asked != times {
		t.Errorf("make was called %d times; want %d", g.asked, times)
	}
}

func checkGet(t *testing.T, c *Cell, want []int64) {
	t.Helper()
	got := c.Get()
	if !slices.Equal(got, want) || want == nil && got != nil {
		t.Errorf("Get: %.40v, %d of them; want %.40v, %d of them", got, len(got), want, len(want))
	}
}

func checkDone(t *testing.T, c *Cell, want bool) {
	t.Helper()
	if c.Done() != want {
		t.Errorf("Done: %v; want %v", c.Done(), want)
	}
}

// panicOf asks a cell, and answers what that panics with: nil where it does not.
func panicOf(c *Cell) (what any) {
	defer func() { what = recover() }()
	c.Get()
	return nil
}

// scribble writes into a list and its spare room.
func scribble(l []int64) {
	l = l[:cap(l)]
	for i := range l {
		l[i] = -99
	}
}

func TestP6_1NothingIsMadeByNew(t *testing.T) {
	g := giver{list: []int64{1}}
	c := New(g.give)
	for range 3 {
		checkDone(t, c, false)
	}
	g.was(t, 0)
}

func TestP6_1GetIsMadeOnce(t *testing.T) {
	for _, list := range samples() {
		g := giver{list: list}
		c := New(g.give)
		for range 4 {
			checkGet(t, c, list)
			checkDone(t, c, true)
			g.was(t, 1)
		}
	}
}

// A make that would give another list each time is not called again.
func TestP6_1LaterGetsTellTheFirst(t *testing.T) {
	n := int64(0)
	c := New(func() []int64 { n++; return []int64{n, -n} })
	for range 5 {
		checkGet(t, c, []int64{1, -1})
	}
}

// It is make that is asked, not what it would have given when the cell was new.
func TestP6_1MadeWhenAsked(t *testing.T) {
	n := int64(1)
	c := New(func() []int64 { return []int64{n} })
	n = 2
	checkGet(t, c, []int64{2})
	n = 3
	checkGet(t, c, []int64{2})
}

func TestP6_1NilMake(t *testing.T) {
	c := New(nil)
	checkDone(t, c, false)
	for range 3 {
		checkGet(t, c, nil)
		checkDone(t, c, true)
	}
}

func TestP6_1MakeGivesNil(t *testing.T) {
	g := giver{}
	c := New(g.give)
	checkDone(t, c, false)
	checkGet(t, c, nil)
	g.list = []int64{1} // what it would give next
	for range 3 {
		checkGet(t, c, nil)
		checkDone(t, c, true)
	}
	g.was(t, 1)
}

func TestP6_1MakePanics(t *testing.T) {
	for _, what := range []any{"no", 7, errors.New("no"), []int(nil)} {
		n := 0
		c := New(func() []int64 {
			n++
			if n == 1 {
				panic(what)
			}
			return []int64{5}
		})
		checkDone(t, c, false)
		got := panicOf(c)
		if _, isList := what.([]int); got == nil || !isList && got != what {
			t.Errorf("the first Get panics with %v; want %v", got, what)
		}
		for range 3 {
			checkDone(t, c, true)
			checkGet(t, c, nil)
		}
		if n != 1 {
			t.Errorf("make was called %d times; want once", n)
		}
	}
}

func TestP6_1MakePanicsByItself(t *testing.T) {
	var none []int64
	var gone *giver
	for _, bad := range []func() []int64{
		func() []int64 { return []int64{none[0]} },
		func() []int64 { return gone.list },
		func() []int64 { return none[:len(none)-1] },
		func() []int64 { panic(nil) },
		gone.give,
	} {
		c := New(bad)
		var err runtime.Error
		if got, _ := panicOf(c).(error); !errors.As(got, &err) {
			t.Errorf("the first Get panics with %v; want an error of the language", got)
		}
		if got := panicOf(c); got != nil {
			t.Errorf("a later Get panics with %v", got)
		}
		checkGet(t, c, nil)
		checkDone(t, c, true)
	}
}

// While it is being made, it was asked.
func TestP6_1DoneWithinMake(t *testing.T) {
	var c *Cell
	asked := false
	c = New(func() []int64 { asked = c.Done(); return []int64{1} })
	checkGet(t, c, []int64{1})
	if !asked {
		t.Error("Done within make: false; want true")
	}
}

func TestP6_1MakeAsksAnotherCell(t *testing.T) {
	p := make([]*Cell, 10)
	g := giver{list: []int64{1}}
	p[0] = New(g.give)
	for i := 1; i < len(p); i++ {
		p[i] = New(func() []int64 { return append(p[i-1].Get(), int64(i)) })
	}
	checkGet(t, p[9], []int64{1, 1, 2, 3, 4, 5, 6, 7, 8, 9})
	checkGet(t, p[3], []int64{1, 1, 2, 3})
	g.was(t, 1)
}

func TestP6_1NilCell(t *testing.T) {
	var c *Cell
	for range 2 {
		checkDone(t, c, false)
		checkGet(t, c, nil)
	}
	checkDone(t, c, false)
}

func TestP0_1ZeroCell(t *testing.T) {
	var c Cell
	checkDone(t, &c, false)
	checkGet(t, &c, nil)
	checkDone(t, &c, true)
}

func TestP6_1PoolLen(t *testing.T) {
	for n, want := range map[int]int{
		math.MinInt: 0, math.MinInt + 1: 0, -1 << 32: 0, -65: 0, -64: 0, -2: 0, -1: 0, 0: 0,
		1: 1, 2: 2, 32: 32, 63: 63, 64: 64,
		65: 64, 66: 64, 128: 64, 1 << 16: 64, 1 << 32: 64, 1<<32 + 1: 64, math.MaxInt - 1: 64, math.MaxInt: 64,
	} {
		asked := 0
		p := Pool(n, func(i int) []int64 { asked++; return nil })
		if len(p) != want {
			t.Errorf("Pool(%d): %d cells; want %d", n, len(p), want)
		}
		for _, c := range p {
			checkDone(t, c, false)
		}
		if q := Pool(n, nil); len(q) != want {
			t.Errorf("Pool(%d) of nil: %d cells; want %d", n, len(q), want)
		}
		if asked != 0 {
			t.Errorf("Pool(%d) called make %d times", n, asked)
		}
	}
}

// Each cell of a pool is asked in turn, by several orders; what the others are is seen after each.
func TestP6_1PoolEachByItself(t *testing.T) {
	for _, step := range []int{1, 3, 27, 63} {
		asked := map[int]int{}
		p := Pool(greatest, func(i int) []int64 { asked[i]++; return []int64{int64(i), int64(100 * i)} })
		for k := range greatest {
			i := k * step % greatest
			for range 2 {
				checkGet(t, p[i], []int64{int64(i), int64(100 * i)})
			}
			if len(asked) != k+1 || asked[i] != 1 {
				t.Fatalf("after %d cells, make was called for %v", k+1, asked)
			}
			for j, c := range p {
				checkDone(t, c, asked[j] > 0)
			}
		}
	}
}

func TestP6_1PoolNilMake(t *testing.T) {
	for _, c := range Pool(3, nil) {
		checkDone(t, c, false)
		checkGet(t, c, nil)
		checkGet(t, c, nil)
		checkDone(t, c, true)
	}
}

// One cell of a pool that panics, or gives nil, is nothing to the others.
func TestP6_1PoolPanics(t *testing.T) {
	p := Pool(5, func(i int) []int64 {
		switch i {
		case 1:
			panic(i)
		case 3:
			return nil
		}
		return []int64{int64(i)}
	})
	if got := panicOf(p[1]); got != 1 {
		t.Errorf("the first Get panics with %v; want 1", got)
	}
	for range 2 {
		for i, c := range p {
			switch i {
			case 1, 3:
				checkGet(t, c, nil)
			default:
				checkGet(t, c, []int64{int64(i)})
			}
		}
	}
}

func TestP0_3AnswersShareNothing(t *testing.T) {
	for _, list := range samples() {
		want := slices.Clone(list)
		c := New(func() []int64 { return slices.Clone(want) })
		first, second := c.Get(), c.Get()
		scribble(first)
		if !slices.Equal(second, want) {
			t.Errorf("an answer changed with another one: %.40v; want %.40v", second, want)
		}
		checkGet(t, c, want)
		scribble(second[:len(second):len(second)])
		_ = append(second[:0], -1, -2, -3)
		checkGet(t, c, want)
	}
}

// What make gave is neither changed nor kept, its spare room neither.
func TestP0_3WhatMakeGaveIsNotKept(t *testing.T) {
	for _, list := range samples() {
		whole := append(slices.Clone(list), 11, 12, 13)
		before := slices.Clone(whole)
		c := New(func() []int64 { return whole[:len(list)] })
		for range 3 {
			got := c.Get()
			scribble(got)
			if _ = append(got, -5); !slices.Equal(whole, before) {
				t.Fatalf("what make gave was changed: %.40v; want %.40v", whole, before)
			}
		}
		scribble(whole)
		if got := c.Get(); !slices.Equal(got, list) {
			t.Errorf("Get changed with what make gave: %.40v; want %.40v", got, list)
		}
	}
}

func TestP0_3PoolsShareNothing(t *testing.T) {
	mine := func(i int) []int64 { return []int64{int64(i)} }
	for _, n := range []int{1, 3, 5, 33, greatest} {
		p, q := Pool(n, mine), Pool(n, mine)
		kept := slices.Clone(p)
		for i := range cap(q) {
			q[:cap(q)][i] = nil
		}
		if !slices.Equal(p, kept) {
			t.Errorf("Pool(%d) changed with another one", n)
		}
		p[0] = nil
		for i, c := range p[1:] {
			checkGet(t, c, []int64{int64(i + 1)})
		}
	}
}

// One list that is given to several cells is not one answer.
func TestP0_5CellsShareNothing(t *testing.T) {
	g := giver{list: []int64{1, 2, 3}}
	a, b := New(g.give), New(g.give)
	scribble(a.Get())
	checkDone(t, b, false)
	g.was(t, 1)
	checkGet(t, b, []int64{1, 2, 3})
	g.was(t, 2)
	p := Pool(3, func(int) []int64 { return g.list })
	for _, c := range p {
		scribble(c.Get())
		checkGet(t, c, []int64{1, 2, 3})
	}
}

// A cell that many ask at once is made once, and all of them are told the same, be it made ever so slowly.
func TestP6_1ManyAskAtOnce(t *testing.T) {
	const workers = 16
	for round := range 20 {
		n := 0
		c := New(func() []int64 {
			n++
			if round == 0 {
				time.Sleep(20 * time.Millisecond)
			}
			return []int64{4, 5}
		})
		var all sync.WaitGroup
		for range workers {
			all.Go(func() {
				c.Done()
				got := c.Get()
				if !slices.Equal(got, []int64{4, 5}) {
					t.Errorf("Get: %v; want 4, 5", got)
				}
				checkDone(t, c, true)
				scribble(got)
			})
		}
		all.Wait()
		if n != 1 {
			t.Errorf("make was called %d times; want once", n)
		}
	}
}

// watched is a cell whose make holds something, and a channel that is closed when that was let go.
func watched(bad bool) (*Cell, chan bool) {
	g := &giver{list: []int64{1}}
	gone := make(chan bool)
	runtime.AddCleanup(g, func(c chan bool) { close(c) }, gone)
	return New(func() []int64 {
		if bad {
			panic(g.asked)
		}
		return g.give()
	}), gone
}

// What make holds is let go when it was called, not ahead of that.
func TestMakeIsNotKept(t *testing.T) {
	for _, bad := range []bool{false, true} {
		c, gone := watched(bad)
		runtime.GC()
		if got := panicOf(c); bad && got != 0 || !bad && got != nil {
			t.Errorf("the first Get panics with %v", got)
		}
		wait := time.After(10 * time.Second)
		for held := true; held; {
			runtime.GC()
			select {
			case <-gone:
				held = false
			case <-wait:
				t.Fatal("what make holds is still there")
			case <-time.After(time.Millisecond):
			}
		}
		checkDone(t, c, true)
	}
}

// FuzzPool asks the cells of a pool in any order: a cell's list is as long as its byte tells, 255 is a panic, 254 nil.
func FuzzPool(f *testing.F) {
	f.Add(3, []byte{0, 254, 255}, []byte{0, 0, 1, 1, 2, 2, 130, 3})
	f.Add(-1, []byte{}, []byte{0})
	f.Add(70, []byte{1, 2, 3, 250}, []byte{63, 64, 0, 63, 191})
	f.Fuzz(func(t *testing.T, n int, kinds, asks []byte) {
		gives := func(i int) []int64 {
			switch k := kindOf(kinds, i); k {
			case 255:
				panic(i)
			case 254:
				return nil
			default:
				return slices.Repeat([]int64{int64(i)}, int(k))
			}
		}
		made := map[int]int{}
		p := Pool(n, func(i int) []int64 { made[i]++; return gives(i) })
		if len(p) != max(0, min(n, greatest)) {
			t.Fatalf("Pool(%d): %d cells", n, len(p))
		}
		asked := map[int]int{}
		for _, a := range asks {
			i := int(a % 128)
			if i >= len(p) {
				continue
			}
			checkDone(t, p[i], asked[i] > 0)
			if a >= 128 {
				continue
			}
			asked[i] = 1
			switch first := made[i] == 0; kindOf(kinds, i) {
			case 255:
				if got := panicOf(p[i]); first && got != i || !first && got != nil {
					t.Errorf("Get of %d panics with %v", i, got)
				}
				checkGet(t, p[i], nil)
			default:
				checkGet(t, p[i], gives(i))
			}
		}
		for i := range p {
			if made[i] != asked[i] {
				t.Errorf("%d was made %d times; want %d", i, made[i], asked[i])
			}
		}
	})
}

func kindOf(kinds []byte, i int) byte {
	if i >= len(kinds) {
		return 254
	}
	return kinds[i]
}
