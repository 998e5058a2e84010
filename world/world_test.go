package world

import (
	"math"
	"slices"
	"testing"

	"curfew/api"
	"curfew/crc"
	"curfew/net"
	"curfew/num"
	"curfew/stable"
	"curfew/wire"
)

// nobodies are the ids of no process of n, such that a narrower number would take some for one.
func nobodies(n int) []int {
	return []int{0, -1, n + 1, n + 2, 8, 9, -n, 64, 65, 256, 257, 1<<16 + 1, 1 << 32, 1<<32 + 1, -1 << 32, math.MaxInt64, math.MinInt64, math.MinInt64 + 1}
}

func wantStep(t *testing.T, w *World, s api.Step, want api.Errno) {
	t.Helper()
	if got := w.Step(s); got != want {
		t.Errorf("Step(%v): %v; want %v", s, got, want)
	}
}

// do does steps that can be done.
func do(t *testing.T, w *World, steps ...api.Step) {
	t.Helper()
	for _, s := range steps {
		wantStep(t, w, s, api.OK)
	}
}

// wantNothing holds that a step is answered so, and does nothing to a world of n.
func wantNothing(t *testing.T, w *World, n int, s api.Step, want api.Errno) {
	t.Helper()
	was := seen(w, n)
	wantStep(t, w, s, want)
	if got := seen(w, n); got != was {
		t.Errorf("Step(%v):\n%s\nwant\n%s", s, got, was)
	}
}

// wantWay holds what is on its way.
func wantWay(t *testing.T, w *World, want ...api.Msg) {
	t.Helper()
	var got []api.Msg
	for i := range w.Net().Len() {
		b, _ := w.Net().Look(i)
		m, err := wire.Decode(b)
		if err != api.OK {
			t.Errorf("on its way: %x", b)
		}
		got = append(got, m)
	}
	if !slices.EqualFunc(got, want, wire.Eq) {
		t.Errorf("on their way: %v; want %v", got, want)
	}
}

func ping(from, to int, num int64) api.Msg {
	return api.Msg{Kind: api.MPing, From: from, To: to, Boot: 1, Num: num}
}

func pong(from, to int, num, clock int64) api.Msg {
	return api.Msg{Kind: api.MPong, From: from, To: to, Boot: 1, Num: num, Clock: clock}
}

// good gives a world of n that were well till all are in the view 1.
func good(t *testing.T, n int) *World {
	t.Helper()
	w := New(n)
	do(t, w, api.Step{Fn: api.SWell, N: 20})
	for id := 1; id <= n; id++ {
		if s := w.Client(id).Status(); s.View != 1 || !s.Good {
			t.Fatalf("of %d, %d: %v", n, id, s)
		}
	}
	return w
}

func TestP27_1New(t *testing.T) {
	for n := 3; n <= 7; n++ {
		w := New(n)
		if w == nil {
			t.Fatalf("New(%d): nil", n)
		}
		if got, want := seen(w, n), newModel(n).seen(); got != want {
			t.Errorf("New(%d):\n%s\nwant\n%s", n, got, want)
		}
		for id := 1; id <= n; id++ {
			x := w.Node(id)
			if x.Boot() != 1 || !x.Knows() || x.Clock() != 0 || x.Last() != 0 || w.Disk(id).Boot() != 1 || w.Disk(id).View() != 0 || !w.Client(id).Status().Up {
				t.Errorf("of %d, %d is not at its first start", n, id)
			}
		}
		if w.Real() != 0 || w.Net().Len() != 0 {
			t.Errorf("New(%d): it is %d, and %d are on their way", n, w.Real(), w.Net().Len())
		}
		for _, id := range nobodies(n) {
			if w.Node(id) != nil || w.Client(id) != nil || w.Disk(id) != nil {
				t.Errorf("of %d there is a process %d", n, id)
			}
		}
	}
	for _, n := range []int{0, 1, 2, 8, 9, -1, -3, -5, 1<<8 + 3, 1<<16 + 5, 1<<32 + 3, math.MaxInt64, math.MinInt64} {
		if New(n) != nil {
			t.Errorf("New(%d): not nil", n)
		}
	}
}

// How many they are is told by whom the first one, which is the least patient, asks for votes.
func TestP27_1HowMany(t *testing.T) {
	for n := 3; n <= 7; n++ {
		w := New(n)
		for range 10 {
			do(t, w, api.Step{Fn: api.STick, A: 1})
		}
		var want []api.Msg
		for id := 2; id <= n; id++ {
			want = append(want, api.Msg{Kind: api.MPropose, From: 1, To: id, Boot: 1, View: 1})
		}
		wantWay(t, w, want...)
	}
}

// Each has its own process, disk and client, and two worlds have nothing in common.
func TestP27_1EachItsOwn(t *testing.T) {
	w, other := New(4), New(4)
	was := seen(other, 4)
	for id := 1; id <= 4; id++ {
		for range id {
			do(t, w, api.Step{Fn: api.STick, A: id})
		}
		for range id {
			wantStep(t, w, api.Step{Fn: api.SCast, A: id}, api.ErrNoView)
		}
		for range id {
			do(t, w, api.Step{Fn: api.SCrash, A: id}, api.Step{Fn: api.SStart, A: id})
		}
		if id%2 == 0 {
			continue
		}
		do(t, w, api.Step{Fn: api.STick, A: id})
		wantStep(t, w, api.Step{Fn: api.SCast, A: id}, api.ErrNoView)
	}
	for id := 1; id <= 4; id++ {
		odd := int64(id % 2)
		if x := w.Node(id); x.Boot() != int64(id+1) || x.Clock() != odd || w.Disk(id).Boot() != int64(id+1) || w.Client(id).Lost() != odd {
			t.Errorf("%d: the start %d (%d), the clock %d, %d were refused", id, x.Boot(), w.Disk(id).Boot(), x.Clock(), w.Client(id).Lost())
		}
	}
	if got := seen(other, 4); got != was {
		t.Errorf("another world:\n%s\nwant\n%s", got, was)
	}
}

// What stays the same one: the process and its client for a start, the disk and what is on its way for ever.
func TestP27_1WhatStays(t *testing.T) {
	w := New(3)
	x, c, d, way := w.Node(2), w.Client(2), w.Disk(2), w.Net()
	do(t, w, api.Step{Fn: api.SWell, N: 30}, api.Step{Fn: api.SCast, A: 2, Order: api.Total, Data: "a=1"}, api.Step{Fn: api.STick, A: 2})
	if w.Node(2) != x || w.Client(2) != c || x.Clock() != 31 || c.Status().Waits != 1 {
		t.Errorf("of one start: %v", c.Status())
	}
	do(t, w, api.Step{Fn: api.SCrash, A: 2})
	if w.Node(2) != nil || w.Client(2) != nil || w.Disk(2) != d || d.Boot() != 1 || d.View() != 1 {
		t.Errorf("it is down: the disk says %d, %d", d.Boot(), d.View())
	}
	do(t, w, api.Step{Fn: api.SStart, A: 2})
	if w.Node(2) == x || w.Client(2) == c || w.Disk(2) != d || d.Boot() != 2 || d.View() != 1 || w.Net() != way || way.Len() != 2 {
		t.Errorf("it is up again: the disk says %d, %d; %d are on their way", d.Boot(), d.View(), way.Len())
	}
	if s := w.Client(2).Status(); !s.Up || s.In || s.Waits != 0 || s.Len != 0 || w.Node(2).Knows() || w.Node(2).Boot() != 2 {
		t.Errorf("it is up again: %v", s)
	}
	if w.Node(1) == nil || w.Node(3) == nil || w.Disk(1).Boot() != 1 || w.Disk(3).Boot() != 1 {
		t.Error("the others are not as they were")
	}
}

// A client is of the present start: it polls what this one tells, from the beginning, and counts its refusals alone.
func TestP27_1ClientOfTheStart(t *testing.T) {
	w := good(t, 3)
	wantStep(t, w, api.Step{Fn: api.SCast, A: 2, Order: 9}, api.ErrForm)
	do(t, w, api.Step{Fn: api.SCast, A: 2, Order: api.Total, Level: api.Strong, Data: "a=1"}, api.Step{Fn: api.SWell, N: 5})
	if l := w.Client(2).Poll(); len(l) != 1 || len(w.Client(2).Poll()) != 0 || w.Client(2).Lost() != 1 {
		t.Errorf("it told %v; %d were refused", l, w.Client(2).Lost())
	}
	do(t, w, api.Step{Fn: api.SCrash, A: 2}, api.Step{Fn: api.SStart, A: 2}, api.Step{Fn: api.SWell, N: 20})
	if l := w.Client(2).Poll(); len(l) != 1 || l[0].E.Data != "a=1" || w.Client(2).Lost() != 0 {
		t.Errorf("it told %v; %d were refused", l, w.Client(2).Lost())
	}
}

func TestP27_2NoSuchStep(t *testing.T) {
	w := good(t, 3)
	do(t, w, api.Step{Fn: api.SCrash, A: 3}, api.Step{Fn: api.STick, A: 1})
	for _, fn := range []int{0, -1, 10, 11, -9, 1<<8 + 1, 1<<16 + 2, 1 << 32, 1<<32 + 3, math.MaxInt64, math.MinInt64} {
		for _, a := range []int{0, 1, 3, 4, -1} {
			for _, n := range []int{0, 1, -1, 500} {
				wantNothing(t, w, 3, api.Step{Fn: fn, A: a, N: n}, api.ErrForm)
			}
		}
	}
	for _, fn := range []int{api.STick, api.SCrash, api.SStart, api.SCast} {
		for _, a := range nobodies(3) {
			wantNothing(t, w, 3, api.Step{Fn: fn, A: a, N: -1, Order: 9}, api.ErrNone)
		}
	}
	for _, fn := range []int{api.STick, api.SCrash, api.SCast} {
		wantNothing(t, w, 3, api.Step{Fn: fn, A: 3, N: -1, Order: 9}, api.ErrDown)
	}
	for _, id := range []int{1, 2} {
		wantNothing(t, w, 3, api.Step{Fn: api.SStart, A: id, N: -1}, api.ErrBusy)
	}
	count := w.Net().Len()
	for _, fn := range []int{api.SSend, api.SDrop, api.SAgain} {
		for _, n := range []int{count, count + 1, -1, -count, 400, 1<<8 + 1, 1 << 32, -1 << 32, math.MaxInt64, math.MinInt64} {
			wantNothing(t, w, 3, api.Step{Fn: fn, A: 1, N: n}, api.ErrRange)
		}
	}
	for _, n := range []int{-1, -200, 201, 400, 1 << 8, 1 << 16, 1<<32 + 1, -1 << 32, math.MaxInt64, math.MinInt64} {
		wantNothing(t, w, 3, api.Step{Fn: api.SWell, A: 1, N: n}, api.ErrRange)
	}
}

// What a step does not speak of, it does not ask.
func TestP27_2OnlyItsOwnFields(t *testing.T) {
	full := api.Step{A: 9, N: 900, Order: 9, Level: -9, Data: "far too long a text for an entry"}
	with := func(fn, a, n int) api.Step {
		s := full
		s.Fn = fn
		if a != 0 {
			s.A = a
		}
		if n >= 0 {
			s.N = n
		}
		return s
	}
	w := New(3)
	w.Net().Send(ping(1, 2, 5), ping(1, 3, 6), ping(2, 3, 7))
	do(t, w, with(api.SReal, 0, -1), with(api.STick, 1, -1), with(api.SSend, 0, 0), with(api.SAgain, 0, 0), with(api.SDrop, 0, 0))
	wantWay(t, w, ping(2, 3, 7), pong(2, 1, 5, 0), pong(3, 1, 6, 0))
	do(t, w, with(api.SCrash, 1, -1), with(api.SStart, 1, -1), with(api.SWell, 0, 2))
	do(t, w, with(api.SWell, 0, 12))
	s := with(api.SCast, 2, -1)
	s.Order, s.Level, s.Data = 0, 0, ""
	do(t, w, s)
}

func TestP27_2Real(t *testing.T) {
	w := good(t, 3)
	do(t, w, api.Step{Fn: api.SCast, A: 1, Data: "a=1"}, api.Step{Fn: api.STick, A: 1}, api.Step{Fn: api.SCrash, A: 2})
	m := newModel(3)
	m.step(api.Step{Fn: api.SWell, N: 20})
	m.step(api.Step{Fn: api.SCast, A: 1, Data: "a=1"})
	m.step(api.Step{Fn: api.STick, A: 1})
	m.step(api.Step{Fn: api.SCrash, A: 2})
	for k := range int64(50) {
		if w.Real() != 20+k {
			t.Errorf("it is %d; want %d", w.Real(), 20+k)
		}
		do(t, w, api.Step{Fn: api.SReal})
	}
	m.real = 70
	if got, want := seen(w, 3), m.seen(); got != want {
		t.Errorf("behind it:\n%s\nwant\n%s", got, want)
	}
}

func TestP27_2Tick(t *testing.T) {
	w := New(3)
	for k := range int64(10) {
		if w.Node(2).Clock() != k {
			t.Errorf("the clock is %d; want %d", w.Node(2).Clock(), k)
		}
		do(t, w, api.Step{Fn: api.STick, A: 2})
	}
	wantWay(t, w)
	w.Net().Send(ping(1, 3, 5))
	do(t, w, api.Step{Fn: api.STick, A: 2}, api.Step{Fn: api.STick, A: 2})
	propose := func(to int) api.Msg {
		return api.Msg{Kind: api.MPropose, From: 2, To: to, Boot: 1, View: 2}
	}
	wantWay(t, w, ping(1, 3, 5), propose(1), propose(3))
	if w.Real() != 0 || w.Node(1).Clock() != 0 || w.Node(3).Clock() != 0 || w.Node(2).Clock() != 12 {
		t.Errorf("it is %d; the clocks are %d, %d, %d", w.Real(), w.Node(1).Clock(), w.Node(2).Clock(), w.Node(3).Clock())
	}
}

func TestP27_2Send(t *testing.T) {
	w := New(3)
	do(t, w, api.Step{Fn: api.STick, A: 1}, api.Step{Fn: api.STick, A: 3}, api.Step{Fn: api.STick, A: 3})
	w.Net().Send(ping(1, 2, 5), ping(2, 3, 6), ping(3, 1, 7), ping(2, 1, 8))
	do(t, w, api.Step{Fn: api.SSend, N: 1})
	wantWay(t, w, ping(1, 2, 5), ping(3, 1, 7), ping(2, 1, 8), pong(3, 2, 6, 2))
	do(t, w, api.Step{Fn: api.SSend, N: 2})
	wantWay(t, w, ping(1, 2, 5), ping(3, 1, 7), pong(3, 2, 6, 2), pong(1, 2, 8, 1))
	do(t, w, api.Step{Fn: api.SSend, N: 3})
	wantWay(t, w, ping(1, 2, 5), ping(3, 1, 7), pong(3, 2, 6, 2))
	do(t, w, api.Step{Fn: api.SSend})
	wantWay(t, w, ping(3, 1, 7), pong(3, 2, 6, 2), pong(2, 1, 5, 0))
	wantStep(t, w, api.Step{Fn: api.SSend, N: 3}, api.ErrRange)
}

func TestP27_2Again(t *testing.T) {
	w := New(3)
	w.Net().Send(ping(1, 2, 5), ping(2, 3, 6))
	do(t, w, api.Step{Fn: api.SAgain, N: 1}, api.Step{Fn: api.SAgain, N: 1}, api.Step{Fn: api.SAgain})
	wantWay(t, w, ping(1, 2, 5), ping(2, 3, 6), pong(3, 2, 6, 0), pong(3, 2, 6, 0), pong(2, 1, 5, 0))
	do(t, w, api.Step{Fn: api.SSend, N: 1})
	wantWay(t, w, ping(1, 2, 5), pong(3, 2, 6, 0), pong(3, 2, 6, 0), pong(2, 1, 5, 0), pong(3, 2, 6, 0))
}

func TestP27_2Drop(t *testing.T) {
	w := New(3)
	w.Net().Send(ping(1, 2, 5), ping(2, 3, 6), ping(3, 1, 7))
	do(t, w, api.Step{Fn: api.SDrop, N: 1})
	wantWay(t, w, ping(1, 2, 5), ping(3, 1, 7))
	do(t, w, api.Step{Fn: api.SDrop, N: 1}, api.Step{Fn: api.SDrop})
	wantWay(t, w)
	wantStep(t, w, api.Step{Fn: api.SDrop}, api.ErrRange)
	if got, want := seen(w, 3), newModel(3).seen(); got != want {
		t.Errorf("behind it:\n%s\nwant\n%s", got, want)
	}
}

// Who is down hears nothing, and who is none neither: it is lost, or stays.
func TestP27_2SendToWhoIsDown(t *testing.T) {
	w := New(3)
	do(t, w, api.Step{Fn: api.SCrash, A: 2})
	w.Net().Send(ping(1, 2, 5), ping(1, 7, 6), ping(1, 2, 7), ping(1, 3, 8))
	was := told(w.Node(3))
	do(t, w, api.Step{Fn: api.SAgain}, api.Step{Fn: api.SAgain, N: 1})
	wantWay(t, w, ping(1, 2, 5), ping(1, 7, 6), ping(1, 2, 7), ping(1, 3, 8))
	do(t, w, api.Step{Fn: api.SSend})
	wantWay(t, w, ping(1, 7, 6), ping(1, 2, 7), ping(1, 3, 8))
	do(t, w, api.Step{Fn: api.SSend}, api.Step{Fn: api.SDrop})
	wantWay(t, w, ping(1, 3, 8))
	if w.Node(2) != nil || told(w.Node(3)) != was {
		t.Error("somebody heard something")
	}
	// What was on its way when it went down, it hears when it is up again.
	w.Net().Send(ping(1, 2, 9))
	do(t, w, api.Step{Fn: api.SStart, A: 2}, api.Step{Fn: api.SSend, N: 1})
	wantWay(t, w, ping(1, 3, 8), api.Msg{Kind: api.MPong, From: 2, To: 1, Boot: 2, Num: 9})
}

// There are at most 400 on their way. One that comes leaves room for one; one that stays does not.
func TestP27_2FullWay(t *testing.T) {
	full := func(n int) (*World, []api.Msg) {
		w := New(n)
		var l []api.Msg
		for k := range int64(400) {
			l = append(l, ping(1, 2, k))
		}
		if got := w.Net().Send(l...); got != 400 {
			t.Fatalf("%d are on their way", got)
		}
		return w, l
	}
	w, l := full(3)
	do(t, w, api.Step{Fn: api.SAgain, N: 399})
	wantWay(t, w, l...)
	do(t, w, api.Step{Fn: api.SSend, N: 399})
	wantWay(t, w, append(slices.Clone(l[:399]), pong(2, 1, 399, 0))...)
	w, l = full(3)
	do(t, w, api.Step{Fn: api.SDrop})
	for range 10 {
		do(t, w, api.Step{Fn: api.STick, A: 1})
	}
	wantWay(t, w, append(slices.Clone(l[1:]), api.Msg{Kind: api.MPropose, From: 1, To: 2, Boot: 1, View: 1})...)
	w, _ = full(3)
	do(t, w, api.Step{Fn: api.SWell, N: 1})
	wantWay(t, w)
}

func TestP27_2CrashAndStart(t *testing.T) {
	w := good(t, 3)
	for k := range int64(5) {
		do(t, w, api.Step{Fn: api.SCrash, A: 1})
		wantNothing(t, w, 3, api.Step{Fn: api.SCrash, A: 1}, api.ErrDown)
		do(t, w, api.Step{Fn: api.SStart, A: 1})
		wantNothing(t, w, 3, api.Step{Fn: api.SStart, A: 1}, api.ErrBusy)
		if w.Disk(1).Boot() != k+2 || w.Node(1).Boot() != k+2 || w.Disk(1).View() != 1 || w.Node(1).Knows() || w.Node(1).Clock() != 0 {
			t.Errorf("the start %d (%d); want %d", w.Disk(1).Boot(), w.Node(1).Boot(), k+2)
		}
	}
	// All that is left of what it was is on its disk: it asks for the rest.
	do(t, w, api.Step{Fn: api.STick, A: 1})
	join := func(to int) api.Msg { return api.Msg{Kind: api.MJoin, From: 1, To: to, Boot: 6, Num: 6} }
	wantWay(t, w, join(2), join(3))
	// Who cannot start stays down, as what that tells says.
	do(t, w, api.Step{Fn: api.SCrash, A: 2})
	*w.Disk(2) = *diskAtItsLastStart(t)
	wantNothing(t, w, 3, api.Step{Fn: api.SStart, A: 2}, api.ErrForm)
	if w.Node(2) != nil || w.Client(2) != nil {
		t.Error("it is up")
	}
}

// diskAtItsLastStart is one behind whose start there is no other.
func diskAtItsLastStart(t *testing.T) *stable.Disk {
	t.Helper()
	d, err := stable.Read(crc.Seal(num.Put(num.Put(nil, 1<<40), 1)))
	if err != api.OK {
		t.Fatalf("Read: %v", err)
	}
	return d
}

func TestP27_2Cast(t *testing.T) {
	w := New(3)
	wantStep(t, w, api.Step{Fn: api.SCast, A: 2, Data: "a=1"}, api.ErrNoView)
	do(t, w, api.Step{Fn: api.SWell, N: 20})
	wantStep(t, w, api.Step{Fn: api.SCast, A: 2, Order: 3}, api.ErrForm)
	wantStep(t, w, api.Step{Fn: api.SCast, A: 2, Level: -1}, api.ErrForm)
	wantStep(t, w, api.Step{Fn: api.SCast, A: 2, Data: "seventeen letters"}, api.ErrForm)
	var want []api.Entry
	for seq := int64(1); seq <= 4; seq++ {
		e := api.Entry{From: 2, Boot: 1, Seq: seq, Order: int(seq) % 3, Level: int(seq+1) % 3, Data: "sixteen letters!"}
		do(t, w, api.Step{Fn: api.SCast, A: 2, Order: e.Order, Level: e.Level, Data: e.Data})
		want = append(want, e)
	}
	wantStep(t, w, api.Step{Fn: api.SCast, A: 2, Data: "a=1"}, api.ErrBusy)
	if w.Client(2).Lost() != 5 || w.Client(1).Lost() != 0 || w.Client(3).Lost() != 0 || w.Client(2).Status().Waits != 4 {
		t.Errorf("%d were refused; %v", w.Client(2).Lost(), w.Client(2).Status())
	}
	wantWay(t, w)
	do(t, w, api.Step{Fn: api.STick, A: 2}, api.Step{Fn: api.SDrop})
	wantWay(t, w, api.Msg{Kind: api.MData, From: 2, To: 1, Boot: 1, Entries: want})
}

// In a round real time goes on, then all tick, rising, then what is on its way comes, the first one first.
func TestP27_2WellOrder(t *testing.T) {
	for n := 3; n <= 7; n++ {
		w := good(t, n)
		w.Step(api.Step{Fn: api.SWell})
		w.Net().Send(api.Msg{Kind: api.MData, From: n, To: 1, Boot: 1, Entries: []api.Entry{{From: n, Boot: 1, Seq: 1}}})
		for id := n; id > 0; id-- {
			do(t, w, api.Step{Fn: api.SCast, A: id}, api.Step{Fn: api.SCast, A: id})
		}
		do(t, w, api.Step{Fn: api.SWell, N: 1})
		// The decider's own are there at its tick; then comes what was on its way, then what the others sent at theirs.
		want := []api.Entry{{From: 1, Boot: 1, Seq: 1, Stamp: 21}, {From: 1, Boot: 1, Seq: 2, Stamp: 21}, {From: n, Boot: 1, Seq: 1, Stamp: 21}}
		for id := 2; id <= n; id++ {
			for seq := int64(1); seq <= 2; seq++ {
				if id < n || seq > 1 {
					want = append(want, api.Entry{From: id, Boot: 1, Seq: seq, Stamp: 21})
				}
			}
		}
		if got := w.Node(1).Log(); !slices.Equal(got, want) {
			t.Errorf("of %d: %v; want %v", n, got, want)
		}
		wantWay(t, w)
		if w.Real() != 21 {
			t.Errorf("of %d: it is %d", n, w.Real())
		}
	}
}

// What comes in a round comes behind all ticks: the clock of who answers went on.
func TestP27_2WellTicksFirst(t *testing.T) {
	w := New(3)
	do(t, w, api.Step{Fn: api.SWell, N: 9})
	// In the tenth round 1 proposes; the others hear of it at their clock 10, and so wait for as long from then on.
	do(t, w, api.Step{Fn: api.SWell, N: 1}, api.Step{Fn: api.SCrash, A: 1})
	for range 11 {
		do(t, w, api.Step{Fn: api.STick, A: 2})
	}
	wantWay(t, w)
	do(t, w, api.Step{Fn: api.STick, A: 2})
	wantWay(t, w, api.Msg{Kind: api.MPropose, From: 2, To: 1, Boot: 1, View: 2}, api.Msg{Kind: api.MPropose, From: 2, To: 3, Boot: 1, View: 2})
}

func TestP27_2WellRounds(t *testing.T) {
	for n := 3; n <= 7; n++ {
		w := New(n)
		want := int64(0)
		for _, rounds := range []int{0, 1, 2, 10, 50, 199, 200} {
			do(t, w, api.Step{Fn: api.SWell, N: rounds})
			want += int64(rounds)
			if w.Real() != want {
				t.Errorf("of %d: it is %d; want %d", n, w.Real(), want)
			}
			for id := 1; id <= n; id++ {
				if got := w.Node(id).Clock(); got != want {
					t.Errorf("of %d, %d: the clock is %d; want %d", n, id, got, want)
				}
			}
			// As many as are sent in all these rounds are more than 3,000: that is what each round may take.
			wantWay(t, w)
		}
	}
}

// No rounds are nothing, also of what is on its way; one takes it, also if nobody is up.
func TestP27_2WellOfNobody(t *testing.T) {
	w := good(t, 5)
	do(t, w, api.Step{Fn: api.STick, A: 1}, api.Step{Fn: api.STick, A: 2})
	wantNothing(t, w, 5, api.Step{Fn: api.SWell}, api.OK)
	for id := 1; id <= 5; id++ {
		do(t, w, api.Step{Fn: api.SCrash, A: id})
	}
	do(t, w, api.Step{Fn: api.SWell, N: 7})
	wantWay(t, w)
	if w.Real() != 27 {
		t.Errorf("it is %d", w.Real())
	}
	for id := 1; id <= 5; id++ {
		if w.Node(id) != nil || w.Disk(id).Boot() != 1 {
			t.Errorf("%d is up", id)
		}
	}
}

// A nil World has nothing, a zero one no processes: the document says it of neither.
func TestP27_2NilAndZero(t *testing.T) {
	var none *World
	for fn := -1; fn <= 10; fn++ {
		for _, a := range []int{0, 1, 9} {
			wantStep(t, none, api.Step{Fn: fn, A: a, N: a}, api.ErrDown)
		}
	}
	zero := &World{}
	for fn, want := range []api.Errno{api.ErrForm, api.OK, api.ErrNone, api.ErrRange, api.ErrRange, api.ErrRange, api.ErrNone, api.ErrNone, api.ErrNone, api.OK, api.ErrForm} {
		wantStep(t, zero, api.Step{Fn: fn, A: 1, N: 1}, want)
	}
	if zero.Real() != 2 {
		t.Errorf("it is %d", zero.Real())
	}
	for _, w := range []*World{none, {}} {
		for id := -1; id <= 8; id++ {
			if w.Node(id) != nil || w.Client(id) != nil || w.Disk(id) != nil {
				t.Errorf("it has a process %d", id)
			}
		}
		if w.Real() != 0 || w.Net().Len() != 0 || w.Net() != (*net.Net)(nil) {
			t.Errorf("it is %d; %d are on their way", w.Real(), w.Net().Len())
		}
	}
}

// What is told hangs on the steps alone.
func TestP0_5SameSteps(t *testing.T) {
	play := func() string {
		w := New(5)
		for k := range 600 {
			w.Step(api.Step{Fn: []int{2, 2, 3, 8, 1, 9, 5, 3, 4, 6, 7}[k*k%11], A: 1 + k%5, N: k % 4, Order: k % 3, Level: k / 3 % 3, Data: "a=1"})
		}
		return seen(w, 5)
	}
	if a, b := play(), play(); a != b {
		t.Errorf("%s\nand\n%s", a, b)
	}
}

// Whoever writes into what is told changes nothing.
func TestP0_3NewMemory(t *testing.T) {
	w := good(t, 3)
	do(t, w, api.Step{Fn: api.SCast, A: 1, Order: api.Total, Level: api.Strong, Data: "a=1"}, api.Step{Fn: api.SWell, N: 4}, api.Step{Fn: api.STick, A: 1})
	was := seen(w, 3)
	x := w.Node(2)
	clear(x.Log())
	clear(x.Told())
	x.Table().Do(api.Entry{From: 1, Boot: 1, Seq: 1, Data: "a=2"})
	b, _ := w.Net().Look(0)
	clear(b[:cap(b)])
	if got := seen(w, 3); got != was {
		t.Errorf("%s\nwant\n%s", got, was)
	}
	if word, err := w.Client(2).Get("a"); word != "1" || err != api.OK {
		t.Errorf("Get: %q, %v", word, err)
	}
}
