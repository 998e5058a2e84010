package net

import (
	"bytes"
	"math"
	"math/rand"
	"slices"
	"strings"
	"testing"

	"curfew/api"
	"curfew/wire"
)

const (
	greatest = int64(1) << 40 // of starts, and of numbers
	most     = 400            // that are on their way
)

// wrongPlaces are those of no message among size, such that a narrower number would take for a good one among them.
func wrongPlaces(size int) []int {
	return []int{
		size, size + 1, size + 2, size + most, -1, -2, -size, -size - 1, -most,
		1 << 8 * size, 1<<16 + size, 1 << 32, 1<<32 + 1, -1 << 32, 1 << 62, math.MaxInt64, math.MaxInt64 - 1, math.MinInt64, math.MinInt64 + 1,
	}
}

func ping(to int, num int64) api.Msg {
	return api.Msg{Kind: api.MPing, From: to%7 + 1, To: to, Boot: 1, Num: num}
}

// pings are so many, each another one, for all processes by turns.
func pings(count int) []api.Msg {
	var l []api.Msg
	for i := range count {
		l = append(l, ping(i%7+1, int64(i)))
	}
	return l
}

// full has something in each field.
func full(kind, from, to int) api.Msg {
	return api.Msg{
		Kind: kind, From: from, To: to, Boot: greatest, View: 9000, Last: 8999, Members: 21, At: 2,
		Entries: []api.Entry{{From: 1, Boot: 1, Seq: 1}, {From: 7, Boot: greatest, Seq: 5, Order: 2, Level: 1, Stamp: 77, Data: strings.Repeat("\xff", 16)}},
		Commit:  6, Num: 1 << 30, Clock: 63, Yes: true,
	}
}

// wrong are messages that may not be, each in one thing.
func wrong() []api.Msg {
	l := []api.Msg{{}}
	for _, change := range []func(m *api.Msg){
		func(m *api.Msg) { m.Kind = 0 },
		func(m *api.Msg) { m.Kind = 14 },
		func(m *api.Msg) { m.From = 0 },
		func(m *api.Msg) { m.From = 8 },
		func(m *api.Msg) { m.From = m.To },
		func(m *api.Msg) { m.To = 0 },
		func(m *api.Msg) { m.To = 8 },
		func(m *api.Msg) { m.To = -1 },
		func(m *api.Msg) { m.To = 1<<32 + 2 },
		func(m *api.Msg) { m.Boot = 0 },
		func(m *api.Msg) { m.Boot = greatest + 1 },
		func(m *api.Msg) { m.View = -1 },
		func(m *api.Msg) { m.Last = greatest + 1 },
		func(m *api.Msg) { m.Members = 128 },
		func(m *api.Msg) { m.At = 61 },
		func(m *api.Msg) { m.Commit = -1 },
		func(m *api.Msg) { m.Num = math.MaxInt64 },
		func(m *api.Msg) { m.Clock = math.MinInt64 },
		func(m *api.Msg) { m.Entries = make([]api.Entry, 1) },
		func(m *api.Msg) { m.Entries = slices.Repeat(m.Entries[:1], 61) },
		func(m *api.Msg) { m.Entries[1].Data = strings.Repeat("a", 17) },
	} {
		m := full(api.MAppend, 1, 2)
		change(&m)
		l = append(l, m)
	}
	return l
}

// model is what is on its way, by the words of the chapter: all that was ever sent is kept, and who is gone is told of each.
type model struct {
	sent []api.Msg
	gone []bool
}

// way is which ones of those that were sent are on their way.
func (x *model) way() []int {
	var l []int
	for k := range x.sent {
		if !x.gone[k] {
			l = append(l, k)
		}
	}
	return l
}

func (x *model) send(ms []api.Msg) int {
	has, count := len(x.way()), 0
	for _, m := range ms {
		if wire.May(m) && has+count < most {
			x.sent, x.gone = append(x.sent, m), append(x.gone, false)
			count++
		}
	}
	return count
}

// look tells none where there is none.
func (x *model) look(i int) (api.Msg, bool) {
	for at, k := range x.way() {
		if at == i {
			return x.sent[k], true
		}
	}
	return api.Msg{}, false
}

func (x *model) drop(i int) bool {
	for at, k := range x.way() {
		if at == i {
			x.gone[k] = true
			return true
		}
	}
	return false
}

func wantSend(t *testing.T, n *Net, want int, ms ...api.Msg) {
	t.Helper()
	if got := n.Send(ms...); got != want {
		t.Errorf("Send of %d: %d; want %d", len(ms), got, want)
	}
}

func wantBytes(t *testing.T, call string, i int, b []byte, ok bool, want api.Msg) {
	t.Helper()
	if !ok || !bytes.Equal(b, wire.Encode(want)) {
		t.Errorf("%s(%d): %x, %v; want %x", call, i, b, ok, wire.Encode(want))
	}
	if m, err := wire.Decode(b); err != api.OK || !wire.Eq(m, want) {
		t.Errorf("%s(%d): it is read as %v, %d; want %v", call, i, m, err, want)
	}
}

func wantTake(t *testing.T, n *Net, i int, want api.Msg) {
	t.Helper()
	b, ok := n.Take(i)
	wantBytes(t, "Take", i, b, ok, want)
}

// wantWay holds all that is on its way, and that there is nothing beside it.
func wantWay(t *testing.T, n *Net, want ...api.Msg) {
	t.Helper()
	if n.Len() != len(want) {
		t.Fatalf("Len: %d; want %d", n.Len(), len(want))
	}
	for i, m := range want {
		b, ok := n.Look(i)
		wantBytes(t, "Look", i, b, ok, m)
		if n.To(i) != m.To {
			t.Errorf("To(%d): %d; want %d", i, n.To(i), m.To)
		}
	}
	wantNone(t, n, wrongPlaces(len(want))...)
	if n.Len() != len(want) {
		t.Fatalf("Len: %d behind wrong calls; want %d", n.Len(), len(want))
	}
}

// wantNone holds that none is at any of those places; what is elsewhere stays.
func wantNone(t *testing.T, n *Net, places ...int) {
	t.Helper()
	for _, i := range places {
		if i >= 0 && i < n.Len() {
			continue
		}
		if to := n.To(i); to != 0 {
			t.Errorf("To(%d): %d", i, to)
		}
		if b, ok := n.Look(i); b != nil || ok {
			t.Errorf("Look(%d): %x, %v", i, b, ok)
		}
		if b, ok := n.Take(i); b != nil || ok {
			t.Errorf("Take(%d): %x, %v", i, b, ok)
		}
		if n.Drop(i) {
			t.Errorf("Drop(%d): true", i)
		}
	}
}

func TestP18_1New(t *testing.T) {
	n := New()
	if n == nil {
		t.Fatal("New: nil")
	}
	wantWay(t, n)
	wantSend(t, n, 0)
	wantWay(t, n)
}

func TestP18_1SendKnownBytes(t *testing.T) {
	n := New()
	wantSend(t, n, 1, api.Msg{Kind: 12, From: 1, To: 2, Boot: 1, Num: 3})
	b, ok := n.Look(0)
	// The numbers, each of them twice as much, and the sum.
	if !ok || len(b) != 17 || !bytes.Equal(b[:13], []byte{24, 2, 4, 2, 0, 0, 0, 0, 0, 6, 0, 0, 0}) {
		t.Errorf("Look(0): %v, %v", b, ok)
	}
}

// What is sent stands last: behind all that is on its way, as it was handed in.
func TestP18_1SendInOrder(t *testing.T) {
	n, l := New(), pings(30)
	var way []api.Msg
	for size := 0; len(l) > 0; size = (size + 1) % 5 {
		k := min(size, len(l))
		wantSend(t, n, k, l[:k]...)
		way, l = append(way, l[:k]...), l[k:]
		wantWay(t, n, way...)
	}
}

func TestP18_1EachKindAndPair(t *testing.T) {
	n := New()
	var way []api.Msg
	for from := 1; from <= 7; from++ {
		for to := 1; to <= 7; to++ {
			m := full((from*7+to)%13+1, from, to)
			if from == to {
				wantSend(t, n, 0, m)
				continue
			}
			wantSend(t, n, 1, m)
			way = append(way, m)
		}
	}
	wantWay(t, n, way...)
	for kind := 1; kind <= 13; kind++ {
		n := New()
		wantSend(t, n, 2, full(kind, 3, 5), api.Msg{Kind: kind, From: 5, To: 3, Boot: 1})
		wantWay(t, n, full(kind, 3, 5), api.Msg{Kind: kind, From: 5, To: 3, Boot: 1})
	}
}

func TestP18_1WhatMayNotBe(t *testing.T) {
	n := New()
	for _, m := range wrong() {
		wantSend(t, n, 0, m)
		wantSend(t, n, 0, m, m, m)
	}
	wantSend(t, n, 0, wrong()...)
	wantWay(t, n)
	for k, m := range wrong() {
		n, l := New(), pings(3)
		wantSend(t, n, 1, m, l[0])
		wantSend(t, n, 1, l[1], m)
		wantSend(t, n, 1, m, l[2], m)
		wantWay(t, n, l...)
		wantSend(t, n, 2, l[k%3], m, m, l[0])
		wantWay(t, n, l[0], l[1], l[2], l[k%3], l[0])
	}
}

// One that is sent again is on its way twice.
func TestP18_1SentAgain(t *testing.T) {
	n, m := New(), full(5, 1, 2)
	wantSend(t, n, 2, m, m)
	wantSend(t, n, 1, m)
	wantWay(t, n, m, m, m)
	wantTake(t, n, 1, m)
	wantWay(t, n, m, m)
}

func TestP18_1AtMost400(t *testing.T) {
	for _, sizes := range [][]int{{399, 1, 1}, {400, 1}, {401}, {450}, {398, 5, 3}, {0, 400, 0, 1}, {1, 450}, {200, 200, 200}, {1000}} {
		n, l, has := New(), pings(1000), 0
		var way []api.Msg
		for _, size := range sizes {
			room := min(size, most-has)
			wantSend(t, n, room, l[:size]...)
			way, l, has = append(way, l[:room]...), l[size:], has+room
		}
		wantWay(t, n, way...)
	}
}

func TestP18_1OneByOne(t *testing.T) {
	n, l := New(), pings(410)
	for i, m := range l {
		want := 1
		if i >= 400 {
			want = 0
		}
		wantSend(t, n, want, m)
		if n.Len() != min(i+1, 400) {
			t.Fatalf("Len: %d behind %d", n.Len(), i+1)
		}
	}
	wantWay(t, n, l[:400]...)
}

// One that may not be takes no room.
func TestP18_1WhatMayNotBeTakesNoRoom(t *testing.T) {
	n, l := New(), pings(401)
	wantSend(t, n, 0, slices.Repeat(wrong(), 30)...)
	var mixed []api.Msg
	for i, m := range l {
		mixed = append(mixed, wrong()[i%len(wrong())], m)
	}
	wantSend(t, n, 400, mixed...)
	wantWay(t, n, l[:400]...)
	wantSend(t, n, 0, wrong()...)
	wantSend(t, n, 0, l[400])
	wantWay(t, n, l[:400]...)
}

// Where one went there is room for one; what was lost does not come back.
func TestP18_1RoomAgain(t *testing.T) {
	for _, i := range []int{0, 1, 7, 200, 398, 399} {
		n, l := New(), pings(600)
		wantSend(t, n, 400, l[:500]...)
		way := slices.Clone(l[:400])
		wantTake(t, n, i, way[i])
		way = slices.Delete(way, i, i+1)
		wantWay(t, n, way...)
		wantSend(t, n, 1, l[500:502]...)
		way = append(way, l[500])
		wantWay(t, n, way...)
		if !n.Drop(i) || !n.Drop(i/2) {
			t.Errorf("Drop(%d): false", i)
		}
		way = slices.Delete(way, i, i+1)
		way = slices.Delete(way, i/2, i/2+1)
		wantSend(t, n, 2, l[502:510]...)
		wantWay(t, n, append(way, l[502:504]...)...)
		wantSend(t, n, 0, l[510])
	}
}

// Look takes no room, and none is made by it.
func TestP18_1LookLeavesAllAsItIs(t *testing.T) {
	n, l := New(), pings(400)
	wantSend(t, n, 400, l...)
	for range 3 {
		wantWay(t, n, l...)
		wantSend(t, n, 0, l[0])
	}
}

func TestP18_1GoneFromEachPlace(t *testing.T) {
	for size := 1; size <= 8; size++ {
		for i := range size {
			l := pings(size)
			rest := slices.Delete(pings(size), i, i+1)
			n := New()
			wantSend(t, n, size, l...)
			wantTake(t, n, i, l[i])
			wantWay(t, n, rest...)
			wantSend(t, n, 1, l[i])
			wantWay(t, n, append(rest, l[i])...)

			n = New()
			wantSend(t, n, size, l...)
			if !n.Drop(i) {
				t.Errorf("Drop(%d) of %d: false", i, size)
			}
			wantWay(t, n, rest...)
		}
	}
}

// Messages are turned: each order in which four may go.
func TestP18_1GoneInAnyOrder(t *testing.T) {
	for code := range 24 {
		n, way := New(), []api.Msg{ping(2, 1), full(5, 1, 7), ping(4, 3), full(3, 7, 1)}
		wantSend(t, n, 4, way...)
		for size := 4; size > 0; size-- {
			i := code % size
			code /= size
			if size%2 == 0 {
				wantTake(t, n, i, way[i])
			} else if !n.Drop(i) {
				t.Errorf("Drop(%d): false", i)
			}
			way = slices.Delete(way, i, i+1)
			wantWay(t, n, way...)
		}
		wantNone(t, n, 0, 1, 2, 3)
	}
}

func TestP18_1WrongPlaces(t *testing.T) {
	for _, size := range []int{0, 1, 2, 255, 256, 257, 399, 400} {
		n, l := New(), pings(size)
		wantSend(t, n, size, l...)
		for i := -600; i <= 900; i++ {
			wantNone(t, n, i)
		}
		wantWay(t, n, l...)
	}
}

func TestP18_1NilNet(t *testing.T) {
	var n *Net
	for range 2 {
		wantSend(t, n, 0)
		wantSend(t, n, 0, ping(2, 1))
		wantSend(t, n, 0, pings(450)...)
		wantSend(t, n, 0, wrong()...)
		if n.Len() != 0 {
			t.Errorf("Len: %d", n.Len())
		}
		wantNone(t, n, append(wrongPlaces(0), 0, 1, 2, 399)...)
	}
}

func TestP0_1ZeroNet(t *testing.T) {
	n := new(Net)
	wantWay(t, n)
	wantSend(t, n, 2, ping(2, 1), api.Msg{}, full(5, 1, 7))
	wantWay(t, n, ping(2, 1), full(5, 1, 7))
}

func TestP0_3ArgumentsStayAsTheyAre(t *testing.T) {
	n := New()
	entries := append(slices.Clone(full(5, 1, 2).Entries), api.Entry{Data: "spare room"})
	m := full(5, 1, 2)
	m.Entries = entries[:2]
	ms := []api.Msg{m, {}, ping(3, 1), {Kind: 99}}
	wantSend(t, n, 2, ms[:3]...)
	if !wire.Eq(ms[0], full(5, 1, 2)) || !wire.Eq(ms[1], api.Msg{}) || !wire.Eq(ms[2], ping(3, 1)) || ms[3].Kind != 99 || entries[2].Data != "spare room" {
		t.Errorf("Send: %v, %v", ms, entries)
	}
	// Nor is any of it kept.
	clear(entries)
	clear(ms)
	wantWay(t, n, full(5, 1, 2), ping(3, 1))
}

func TestP0_3AnswersAreNewMemory(t *testing.T) {
	n := New()
	l := []api.Msg{full(5, 1, 2), ping(3, 1), full(3, 7, 1)}
	wantSend(t, n, 3, l...)
	a, _ := n.Look(1)
	b, _ := n.Look(1)
	clear(a[:cap(a)])
	wantBytes(t, "Look", 1, b, true, l[1])
	clear(b[:cap(b)])
	wantWay(t, n, l...)
	c, _ := n.Look(0)
	d, _ := n.Look(1)
	x, _ := n.Take(0)
	clear(x[:cap(x)])
	wantBytes(t, "Look", 0, c, true, l[0])
	wantWay(t, n, l[1:]...)
	y, _ := n.Take(0)
	clear(y[:cap(y)])
	wantBytes(t, "Look", 1, d, true, l[1])
	wantWay(t, n, l[2])
	// What was taken stays as it is, whatever is sent and goes then.
	z, _ := n.Take(0)
	wantSend(t, n, 3, l...)
	for range 3 {
		n.Drop(0)
	}
	wantBytes(t, "Take", 0, z, true, l[2])
}

func TestP0_4NilIsEmpty(t *testing.T) {
	n, none := New(), ping(2, 1)
	none.Entries = []api.Entry{}
	wantSend(t, n, 0, nil...)
	wantSend(t, n, 0, []api.Msg{}...)
	wantSend(t, n, 2, none, ping(2, 1))
	wantWay(t, n, ping(2, 1), ping(2, 1))
	wantWay(t, n, none, none)
}

func TestP0_5NetsAreTheirOwn(t *testing.T) {
	a, b, l := New(), New(), pings(401)
	wantSend(t, a, 400, l...)
	wantWay(t, b)
	wantSend(t, b, 2, l[5], l[6])
	wantTake(t, a, 0, l[0])
	wantWay(t, b, l[5], l[6])
	wantTake(t, b, 1, l[6])
	wantWay(t, a, l[1:400]...)
	wantWay(t, b, l[5])
	wantWay(t, New())
}

// chosen are some messages, of which some may not be.
func chosen(next func(n int) int, count int) []api.Msg {
	var l []api.Msg
	for range count {
		m := full(1+next(13), 1+next(7), 1+next(7))
		m.View = int64(next(200))
		m.Entries = m.Entries[:next(3)]
		if next(12) == 0 {
			m.To = next(9)
		}
		l = append(l, m)
	}
	return l
}

// step does what next chooses, to the Net and to the model, and tells which kind of answer came.
func step(t *testing.T, n *Net, x *model, next func(n int) int) string {
	t.Helper()
	place := next(n.Len()+3) - 1
	switch next(4) {
	case 0:
		count := next(4)
		if next(8) == 0 {
			count = next(250)
		}
		l := chosen(next, count)
		was, want := n.Len(), x.send(l)
		wantSend(t, n, want, l...)
		if was+count > most {
			return "lost"
		}
		return "sent"
	case 1:
		want, wantOk := x.look(place)
		x.drop(place)
		b, ok := n.Take(place)
		return wantOr(t, "Take", place, b, ok, want, wantOk)
	case 2:
		want, wantOk := x.look(place)
		b, ok := n.Look(place)
		return wantOr(t, "Look", place, b, ok, want, wantOk)
	}
	if ok, want := n.Drop(place), x.drop(place); ok != want {
		t.Fatalf("Drop(%d): %v; want %v", place, ok, want)
	}
	return "Drop"
}

func wantOr(t *testing.T, call string, i int, b []byte, ok bool, want api.Msg, wantOk bool) string {
	t.Helper()
	if wantOk {
		wantBytes(t, call, i, b, ok, want)
		return call
	}
	if b != nil || ok {
		t.Errorf("%s(%d): %x, %v", call, i, b, ok)
	}
	return "none"
}

// script holds the Net against the model at each step, and tells how often each kind of answer came.
func script(t *testing.T, next func(n int) int, steps int) map[string]int {
	t.Helper()
	n, x := New(), &model{}
	came := map[string]int{}
	for range steps {
		came[step(t, n, x, next)]++
		way := x.way()
		if n.Len() != len(way) {
			t.Fatalf("Len: %d; want %d", n.Len(), len(way))
		}
		for i, k := range way {
			if n.To(i) != x.sent[k].To {
				t.Fatalf("To(%d): %d; want %d", i, n.To(i), x.sent[k].To)
			}
		}
		wantNone(t, n, -1, len(way))
		if t.Failed() {
			t.FailNow()
		}
	}
	var l []api.Msg
	for _, k := range x.way() {
		l = append(l, x.sent[k])
	}
	wantWay(t, n, l...)
	return came
}

func TestP18Scripts(t *testing.T) {
	all := map[string]int{}
	for seed := range int64(60) {
		for kind, n := range script(t, rand.New(rand.NewSource(seed)).Intn, 120) {
			all[kind] += n
		}
	}
	// The scripts are such that each kind of answer comes often.
	for _, kind := range []string{"sent", "lost", "Take", "Look", "Drop", "none"} {
		if all[kind] < 50 {
			t.Errorf("%d answers: %s", all[kind], kind)
		}
	}
}

func FuzzNet(f *testing.F) {
	f.Add([]byte{})
	f.Add([]byte("\x00\x01\x02\x03\x00\x01\x02\x03\x04\x05\x06\x07\x08\x09\x0a"))
	f.Add([]byte("the quick brown fox jumps over the lazy dog"))
	f.Fuzz(func(t *testing.T, b []byte) {
		next := func(n int) int {
			if len(b) == 0 {
				return 0
			}
			c := int(b[0])
			b = b[1:]
			return c % n
		}
		script(t, next, min(60, len(b)/5+1))
	})
}
