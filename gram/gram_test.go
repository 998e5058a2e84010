package gram

import (
	"bytes"
	"math"
	"math/rand"
	"slices"
	"strings"
	"testing"

	"curfew/api"
	"curfew/delay"
	"curfew/wire"
)

const greatest = int64(1) << 40 // of starts, of numbers, and of times

// wrongIDs are those of no process, such that a narrower number would take for a good one among them.
func wrongIDs() []int {
	return []int{0, -1, -2, -7, 8, 9, 63, 64, 255, 256, 257, 1<<16 + 1, 1<<32 + 1, -1<<32 + 2, math.MaxInt64, math.MinInt64, math.MinInt64 + 1}
}

// edges are numbers about all bounds that may count.
func edges() []int64 {
	var l []int64
	for d := int64(-2); d <= 2; d++ {
		l = append(l, d, greatest+d, -greatest+d, 1<<32+d, 1<<20+d)
	}
	return append(l, math.MaxInt64, math.MaxInt64-1, math.MinInt64, math.MinInt64+1)
}

func msg(from, to int, boot int64) api.Msg {
	return api.Msg{Kind: api.MAsk, From: from, To: to, Boot: boot, View: 9, Num: 3}
}

// full has something in each field.
func full(kind, from, to int, boot int64) api.Msg {
	return api.Msg{
		Kind: kind, From: from, To: to, Boot: boot, View: 9000, Last: 8999, Members: 21, At: 2,
		Entries: []api.Entry{{From: 1, Boot: 1, Seq: 1}, {From: 7, Boot: greatest, Seq: 5, Order: 2, Level: 1, Stamp: 77, Data: strings.Repeat("\xff", 16)}},
		Commit:  6, Num: 1 << 30, Clock: 63, Yes: true,
	}
}

func pong(from int, num, clock int64) api.Msg {
	return api.Msg{Kind: api.MPong, From: from, Num: num, Clock: clock}
}

func isZero(m api.Msg) bool { return len(m.Entries) == 0 && wire.Eq(m, api.Msg{}) }

// model is what a Gram knows, by the words of the chapter: all that was heard and sent is kept, and gone through anew.
type model struct {
	me    int
	heard []api.Msg
	pings []sent
}

type sent struct {
	id         int
	num, clock int64
}

func (x *model) boot(id int) int64 {
	n := int64(0)
	for _, m := range x.heard {
		if m.From == id {
			n = max(n, m.Boot)
		}
	}
	return n
}

func (x *model) hear(b []byte) (api.Msg, api.Errno) {
	m, err := wire.Decode(b)
	switch {
	case err != api.OK, m.To != x.me:
		return api.Msg{}, api.ErrForm
	case m.Boot < x.boot(m.From):
		return api.Msg{}, api.ErrOld
	}
	x.heard = append(x.heard, m)
	return m, api.OK
}

func (x *model) sent(id int, num, clock int64) {
	if id >= 1 && id <= 7 {
		x.pings = append(x.pings, sent{id, num, clock})
	}
}

func (x *model) took(m api.Msg, clock, ppm int64) (int64, bool) {
	for i := len(x.pings) - 1; i >= 0; i-- {
		p := x.pings[i]
		if p.id != m.From {
			continue
		}
		if m.Kind != 13 || p.num != m.Num {
			return 0, false
		}
		return delay.Bound(delay.Trip{Sent: p.clock, Heard: m.Clock, Back: m.Clock, Came: clock}, ppm)
	}
	return 0, false
}

func wantHear(t *testing.T, g *Gram, b []byte, want api.Msg, wantErr api.Errno) {
	t.Helper()
	if m, err := g.Hear(b); err != wantErr || !wire.Eq(m, want) {
		t.Errorf("Hear(%x): %v, %d; want %v, %d", b, m, err, want, wantErr)
	}
}

func wantHeard(t *testing.T, g *Gram, m api.Msg) {
	t.Helper()
	wantHear(t, g, wire.Encode(m), m, api.OK)
}

func wantRefused(t *testing.T, g *Gram, m api.Msg, want api.Errno) {
	t.Helper()
	wantHear(t, g, wire.Encode(m), api.Msg{}, want)
}

// wantBoots holds Boot of all ids, the wrong ones too; l is by id, less 1, and 0 where it is shorter.
func wantBoots(t *testing.T, g *Gram, l ...int64) {
	t.Helper()
	for id := 1; id <= 7; id++ {
		want := int64(0)
		if id <= len(l) {
			want = l[id-1]
		}
		if got := g.Boot(id); got != want {
			t.Errorf("Boot(%d): %d; want %d", id, got, want)
		}
	}
	for _, id := range wrongIDs() {
		if got := g.Boot(id); got != 0 {
			t.Errorf("Boot(%d): %d", id, got)
		}
	}
}

func wantTook(t *testing.T, g *Gram, m api.Msg, clock, ppm, want int64) {
	t.Helper()
	if n, ok := g.Took(m, clock, ppm); n != want || !ok {
		t.Errorf("Took(%v, %d, %d): %d, %v; want %d, true", m, clock, ppm, n, ok, want)
	}
}

func wantNone(t *testing.T, g *Gram, m api.Msg, clock, ppm int64) {
	t.Helper()
	if n, ok := g.Took(m, clock, ppm); n != 0 || ok {
		t.Errorf("Took(%v, %d, %d): %d, %v; want 0, false", m, clock, ppm, n, ok)
	}
}

func TestP17_1New(t *testing.T) {
	for me := 1; me <= 7; me++ {
		g := New(me)
		if g == nil {
			t.Fatalf("New(%d): nil", me)
		}
		wantBoots(t, g)
		for from := 1; from <= 7; from++ {
			wantNone(t, g, pong(from, 0, 0), 0, 0)
		}
	}
	for _, me := range wrongIDs() {
		if New(me) != nil {
			t.Errorf("New(%d): not nil", me)
		}
	}
}

// Whatever the kind, the whole message is told.
func TestP17_1HearEachKind(t *testing.T) {
	for kind := 1; kind <= 13; kind++ {
		g := New(3)
		wantHeard(t, g, full(kind, 5, 3, 70))
		wantHeard(t, g, api.Msg{Kind: kind, From: 1, To: 3, Boot: 1})
		wantBoots(t, g, 1, 0, 0, 0, 70)
	}
}

func TestP17_1HearEachPair(t *testing.T) {
	for me := 1; me <= 7; me++ {
		g := New(me)
		boots := make([]int64, 7)
		for from := 1; from <= 7; from++ {
			for to := 1; to <= 7; to++ {
				m := msg(from, to, int64(10*from+to))
				if to != me || from == me {
					wantRefused(t, g, m, api.ErrForm)
					continue
				}
				wantHeard(t, g, m)
				boots[from-1] = m.Boot
			}
		}
		wantBoots(t, g, boots...)
	}
}

func TestP17_1HearWhatIsElder(t *testing.T) {
	g := New(2)
	for _, c := range []struct {
		from int
		boot int64
		want api.Errno
		now  int64 // the greatest Boot of from, then
	}{
		{1, 5, api.OK, 5}, {1, 5, api.OK, 5}, {1, 4, api.ErrOld, 5}, {1, 1, api.ErrOld, 5}, {1, 5, api.OK, 5}, {1, 6, api.OK, 6}, {1, 5, api.ErrOld, 6}, {1, 6, api.OK, 6},
		{3, 1, api.OK, 1}, {3, 1, api.OK, 1}, {3, greatest, api.OK, greatest}, {3, greatest - 1, api.ErrOld, greatest}, {3, greatest, api.OK, greatest},
		{7, 1 << 32, api.OK, 1 << 32}, {7, 1, api.ErrOld, 1 << 32}, {7, 1<<32 + 1, api.OK, 1<<32 + 1}, {7, 1 << 32, api.ErrOld, 1<<32 + 1}, {1, 6, api.OK, 6}, {1, 1, api.ErrOld, 6},
	} {
		if c.want == api.OK {
			wantHeard(t, g, full(api.MVote, c.from, 2, c.boot))
		} else {
			wantRefused(t, g, full(api.MVote, c.from, 2, c.boot), c.want)
		}
		if got := g.Boot(c.from); got != c.now {
			t.Errorf("Boot(%d): %d; want %d", c.from, got, c.now)
		}
	}
	wantBoots(t, g, 6, 0, greatest, 0, 0, 0, 1<<32+1)
}

// What is refused was not heard: its Boot does not count.
func TestP17_1WhatIsRefusedCountsNot(t *testing.T) {
	g := New(2)
	wantHeard(t, g, msg(1, 2, 5))
	b := wire.Encode(msg(1, 2, 9))
	b[len(b)-1]++
	wantHear(t, g, b, api.Msg{}, api.ErrForm)
	wantRefused(t, g, msg(1, 3, 9), api.ErrForm)
	wantRefused(t, g, msg(3, 1, 9), api.ErrForm)
	wantRefused(t, g, msg(1, 2, 4), api.ErrOld)
	wantBoots(t, g, 5)
	wantHeard(t, g, msg(1, 2, 5))
	wantHeard(t, g, msg(3, 2, 1))
	wantBoots(t, g, 5, 0, 1)
}

// Of both errors the one that the chapter names first.
func TestP17_1FormAheadOfOld(t *testing.T) {
	g := New(2)
	wantHeard(t, g, msg(1, 2, 5))
	for to := 3; to <= 7; to++ {
		wantRefused(t, g, msg(1, to, 4), api.ErrForm)
	}
	b := wire.Encode(msg(1, 2, 4))
	for i := range b {
		c := slices.Clone(b)
		c[i] ^= 64
		wantHear(t, g, c, api.Msg{}, api.ErrForm)
		wantHear(t, g, b[:i], api.Msg{}, api.ErrForm)
	}
	wantHear(t, g, b, api.Msg{}, api.ErrOld)
}

func TestP17_1HearWhatIsNoMessage(t *testing.T) {
	g := New(2)
	good := wire.Encode(full(api.MAppend, 1, 2, 9))
	for i := range good {
		for d := 1; d < 256; d++ {
			b := slices.Clone(good)
			b[i] ^= byte(d)
			wantHear(t, g, b, api.Msg{}, api.ErrForm)
		}
		wantHear(t, g, good[:i], api.Msg{}, api.ErrForm)
		wantHear(t, g, good[i+1:], api.Msg{}, api.ErrForm)
	}
	for c := range 256 {
		wantHear(t, g, append(slices.Clone(good), byte(c)), api.Msg{}, api.ErrForm)
		wantHear(t, g, []byte{byte(c)}, api.Msg{}, api.ErrForm)
	}
	for _, b := range [][]byte{nil, {}, []byte("junk"), make([]byte, 4), make([]byte, 1<<20), slices.Concat(good, good)} {
		wantHear(t, g, b, api.Msg{}, api.ErrForm)
	}
	wantBoots(t, g)
	wantHear(t, g, good, full(api.MAppend, 1, 2, 9), api.OK)
	wantBoots(t, g, 9)
}

func TestP17_2TookKnown(t *testing.T) {
	g := New(2)
	g.Sent(1, 6, 110)
	for _, c := range []struct{ heard, clock, ppm, want int64 }{
		{7, 130, 0, 20}, {9, 125, 0, 15}, {7, 110, 0, 0}, {7, 111, 0, 1}, {7, 111, 1, 2}, {7, 210, 100, 101}, {7, 120, 500000, 20}, {7, 113, 500000, 6}, {7, 110, 500000, 0},
		// What the other clock shows does not count, but it must be a time.
		{0, 130, 0, 20}, {-5, 130, 0, 20}, {greatest, 130, 0, 20}, {-greatest, 130, 0, 20}, {110, 130, 0, 20}, {130, 130, 0, 20}, {1000, 130, 0, 20},
		{7, greatest, 0, greatest - 110}, {7, (greatest - 110) / 2, 500000, greatest - 330},
	} {
		wantTook(t, g, pong(1, 6, c.heard), c.clock, c.ppm, c.want)
	}
	g.Sent(1, 7, -30)
	wantTook(t, g, pong(1, 7, 4), 12, 0, 42)
	g.Sent(1, 8, -greatest)
	wantTook(t, g, pong(1, 8, 4), 0, 0, greatest)
	wantTook(t, g, pong(1, 8, 4), -greatest, 0, 0)
}

func TestP17_2TookNoBound(t *testing.T) {
	g := New(2)
	g.Sent(1, 6, 110)
	for _, c := range []struct{ heard, clock, ppm int64 }{
		{7, 109, 0}, {7, 0, 0}, {7, -110, 0}, {7, -greatest, 0}, {7, 109, 500000},
		{7, 130, -1}, {7, 130, 500001}, {7, 130, math.MaxInt64}, {7, 130, math.MinInt64},
		{7, greatest + 1, 0}, {7, math.MaxInt64, 0}, {7, math.MinInt64, 0}, {7, -greatest - 1, 0},
		{greatest + 1, 130, 0}, {-greatest - 1, 130, 0}, {math.MaxInt64, 130, 0}, {math.MinInt64, 130, 0},
		{7, greatest, 500000}, {7, greatest, 1000},
	} {
		wantNone(t, g, pong(1, 6, c.heard), c.clock, c.ppm)
	}
	wantTook(t, g, pong(1, 6, 7), 130, 0, 20)
	g.Sent(1, 7, -greatest)
	wantNone(t, g, pong(1, 7, 0), 1, 0)
	wantNone(t, g, pong(1, 7, 0), greatest, 0)
}

// A ping that went when it was no time is the last one all the same.
func TestP17_2SentAtNoTime(t *testing.T) {
	for _, clock := range []int64{greatest + 1, -greatest - 1, math.MaxInt64, math.MinInt64} {
		g := New(2)
		g.Sent(1, 6, 110)
		g.Sent(1, 7, clock)
		for _, now := range append(edges(), 130) {
			wantNone(t, g, pong(1, 7, 3), now, 0)
			wantNone(t, g, pong(1, 6, 3), now, 0)
		}
		g.Sent(1, 7, 120)
		wantTook(t, g, pong(1, 7, 3), 130, 0, 10)
	}
}

func TestP17_2TookAnotherKind(t *testing.T) {
	g := New(2)
	g.Sent(1, 6, 110)
	for kind := -300; kind <= 300; kind++ {
		m := pong(1, 6, 7)
		m.Kind = kind
		if kind == 13 {
			wantTook(t, g, m, 130, 0, 20)
		} else {
			wantNone(t, g, m, 130, 0)
		}
	}
	for _, kind := range []int{1<<32 + 13, 1<<8 + 13, math.MaxInt64, math.MinInt64} {
		m := pong(1, 6, 7)
		m.Kind = kind
		wantNone(t, g, m, 130, 0)
	}
}

func TestP17_2TookNoSuchPing(t *testing.T) {
	g := New(2)
	g.Sent(1, 6, 110)
	for _, num := range append(edges(), 5, 7, 1<<8+6, 1<<32+6, -6) {
		wantNone(t, g, pong(1, num, 7), 130, 0)
	}
	for from := 2; from <= 7; from++ {
		wantNone(t, g, pong(from, 6, 7), 130, 0)
		wantNone(t, g, pong(from, 0, 7), 130, 0)
	}
	for _, from := range wrongIDs() {
		wantNone(t, g, pong(from, 6, 7), 130, 0)
		wantNone(t, g, pong(from, 0, 0), 0, 0)
	}
	wantTook(t, g, pong(1, 6, 7), 130, 0, 20)
}

// Any number may be a ping's, 0 too: that is not taken for none.
func TestP17_2EachNum(t *testing.T) {
	g := New(2)
	for i, num := range edges() {
		g.Sent(3, num, int64(i))
		for _, other := range edges() {
			if other == num {
				wantTook(t, g, pong(3, num, 7), 100, 0, int64(100-i))
			} else {
				wantNone(t, g, pong(3, other, 7), 100, 0)
			}
		}
	}
}

func TestP17_2TheLastPingCounts(t *testing.T) {
	g := New(2)
	g.Sent(1, 5, 100)
	wantTook(t, g, pong(1, 5, 7), 130, 0, 30)
	g.Sent(1, 6, 110)
	wantNone(t, g, pong(1, 5, 7), 130, 0)
	wantTook(t, g, pong(1, 6, 7), 130, 0, 20)
	// The last one that went, not the one of the greatest number, nor of the latest time.
	g.Sent(1, 5, 90)
	wantNone(t, g, pong(1, 6, 7), 130, 0)
	wantTook(t, g, pong(1, 5, 7), 130, 0, 40)
	g.Sent(1, 5, 120)
	wantTook(t, g, pong(1, 5, 7), 130, 0, 10)
	wantNone(t, g, pong(1, 5, 7), 119, 0)
	g.Sent(1, 5, 80)
	wantTook(t, g, pong(1, 5, 7), 130, 0, 50)
}

func TestP17_2EachProcessItsOwnPing(t *testing.T) {
	g := New(2)
	for id := 1; id <= 7; id++ {
		g.Sent(id, int64(id%3), int64(10*id))
	}
	for _, id := range wrongIDs() {
		g.Sent(id, 1, 3)
	}
	for id := 1; id <= 7; id++ {
		for num := int64(-1); num <= 3; num++ {
			if num == int64(id%3) {
				wantTook(t, g, pong(id, num, 7), 100, 0, int64(100-10*id))
			} else {
				wantNone(t, g, pong(id, num, 7), 100, 0)
			}
		}
	}
	for _, id := range wrongIDs() {
		wantNone(t, g, pong(id, 1, 7), 100, 0)
	}
}

// Neither a pong that was taken nor what is heard takes a ping back, of a later start neither.
func TestP17_2ThePingStays(t *testing.T) {
	g := New(2)
	g.Sent(1, 6, 110)
	for range 3 {
		wantTook(t, g, pong(1, 6, 7), 130, 0, 20)
		wantTook(t, g, pong(1, 6, 8), 140, 0, 30)
		wantNone(t, g, pong(1, 5, 8), 140, 0)
		wantNone(t, g, pong(1, 6, 8), 100, 0)
	}
	for boot := int64(1); boot < 4; boot++ {
		m := pong(1, 6, 7)
		m.To, m.Boot = 2, boot
		wantHeard(t, g, m)
		wantRefused(t, g, msg(1, 3, 99), api.ErrForm)
		wantTook(t, g, m, 130, 0, 20)
	}
	wantBoots(t, g, 3)
}

// Of m just its Kind, From, Num and Clock are asked.
func TestP17_2TookAsksNoOtherField(t *testing.T) {
	g := New(2)
	m := full(api.MPong, 1, 3, 4)
	g.Sent(1, m.Num, 110)
	wantTook(t, g, m, 130, 0, 20)
	m.Boot, m.To, m.View, m.Entries = -9, 99, math.MinInt64, slices.Repeat(m.Entries, 100)
	wantTook(t, g, m, 130, 0, 20)
	wantBoots(t, g)
}

func TestP17_2NilGram(t *testing.T) {
	var g *Gram
	for range 2 {
		for _, b := range [][]byte{nil, {}, []byte("junk"), wire.Encode(msg(1, 2, 5)), wire.Encode(full(3, 1, 7, 5))} {
			wantHear(t, g, b, api.Msg{}, api.ErrDown)
		}
		wantBoots(t, g)
		for _, id := range append(wrongIDs(), 1, 2, 7) {
			g.Sent(id, 6, 110)
			wantNone(t, g, pong(id, 6, 7), 130, 0)
			wantNone(t, g, pong(id, 0, 0), 0, 0)
		}
		wantNone(t, g, api.Msg{}, 0, 0)
	}
}

// No message is for a zero Gram, which is no process's.
func TestP0_1ZeroGram(t *testing.T) {
	g := new(Gram)
	for to := 1; to <= 7; to++ {
		wantRefused(t, g, msg(to%7+1, to, 5), api.ErrForm)
	}
	wantBoots(t, g)
	wantNone(t, g, pong(0, 0, 0), 0, 0)
	wantNone(t, g, api.Msg{}, 0, 0)
}

func TestP0_1AnyNumbers(t *testing.T) {
	r := rand.New(rand.NewSource(17))
	l := edges()
	pick := func() int64 { return l[r.Intn(len(l))] }
	g, x := New(2), &model{me: 2}
	for range 50000 {
		id, num, clock := int(pick()), pick(), pick()
		g.Sent(id, num, clock)
		x.sent(id, num, clock)
		m := api.Msg{Kind: 13, From: int(pick()), Num: num, Clock: pick()}
		now, ppm := pick(), pick()
		n, ok := g.Took(m, now, ppm)
		if want, wantOk := x.took(m, now, ppm); n != want || ok != wantOk {
			t.Fatalf("Took(%v, %d, %d): %d, %v; want %d, %v", m, now, ppm, n, ok, want, wantOk)
		}
	}
}

// script does what next chooses, and holds the Gram against the model at each step; it tells how often each kind of answer came.
func script(t *testing.T, next func(n int) int, steps int) map[string]int {
	t.Helper()
	me := 1 + next(7)
	g, x := New(me), &model{me: me}
	came := map[string]int{}
	for range steps {
		switch next(4) {
		case 0, 1:
			came[stepHear(t, g, x, next)]++
		case 2:
			id, num, clock := next(9), int64(next(3)), int64(next(40))
			g.Sent(id, num, clock)
			x.sent(id, num, clock)
		case 3:
			came[stepTook(t, g, x, next)]++
		}
		for id := -1; id <= 9; id++ {
			if got, want := g.Boot(id), x.boot(id); got != want {
				t.Fatalf("Boot(%d): %d; want %d", id, got, want)
			}
		}
	}
	return came
}

func stepHear(t *testing.T, g *Gram, x *model, next func(n int) int) string {
	t.Helper()
	m := full(1+next(13), 1+next(7), 1+next(7), int64(1+next(6)))
	if next(2) == 0 {
		m.To = x.me
	}
	m.View = int64(next(9))
	b := wire.Encode(m)
	if next(8) == 0 && len(b) > 0 {
		b[next(len(b))] ^= byte(1 + next(255))
	}
	got, err := g.Hear(b)
	want, wantErr := x.hear(b)
	if err != wantErr || !wire.Eq(got, want) {
		t.Fatalf("Hear(%v): %v, %d; want %v, %d", m, got, err, want, wantErr)
	}
	return []string{api.OK: "heard", api.ErrForm: "form", api.ErrOld: "old"}[err]
}

func stepTook(t *testing.T, g *Gram, x *model, next func(n int) int) string {
	t.Helper()
	m := pong(next(9), int64(next(3)), int64(next(40)))
	if next(8) == 0 {
		m.Kind = next(15)
	}
	clock, ppm := int64(20+next(40)), int64(next(500010)-2)
	n, ok := g.Took(m, clock, ppm)
	want, wantOk := x.took(m, clock, ppm)
	if n != want || ok != wantOk {
		t.Fatalf("Took(%v, %d, %d): %d, %v; want %d, %v", m, clock, ppm, n, ok, want, wantOk)
	}
	if ok {
		return "took"
	}
	return "none"
}

func TestP17Scripts(t *testing.T) {
	all := map[string]int{}
	for seed := range int64(200) {
		for kind, n := range script(t, rand.New(rand.NewSource(seed)).Intn, 150) {
			all[kind] += n
		}
	}
	// The scripts are such that each kind of answer comes often.
	for _, kind := range []string{"heard", "form", "old", "took", "none"} {
		if all[kind] < 300 {
			t.Errorf("%d answers: %s", all[kind], kind)
		}
	}
}

func TestP0_3ArgumentsStayAsTheyAre(t *testing.T) {
	g := New(2)
	for _, m := range []api.Msg{full(5, 1, 2, 9), full(5, 1, 3, 9), full(5, 1, 2, 8)} {
		b := append(wire.Encode(m), "spare room"...)
		was := slices.Clone(b)
		g.Hear(b[:len(b)-10])
		if !bytes.Equal(b, was) {
			t.Errorf("Hear: %x is %x now", was, b)
		}
	}
	m := full(api.MPong, 1, 2, 9)
	g.Sent(1, m.Num, 1)
	g.Took(m, 9, 0)
	if !wire.Eq(m, full(api.MPong, 1, 2, 9)) {
		t.Errorf("Took: %v", m)
	}
}

func TestP0_3AnswersAreNewMemory(t *testing.T) {
	g := New(2)
	b := wire.Encode(full(5, 1, 2, 9))
	x, _ := g.Hear(b)
	y, _ := g.Hear(b)
	clear(b)
	if !wire.Eq(x, full(5, 1, 2, 9)) {
		t.Errorf("Hear: %v hangs on the bytes that were heard", x)
	}
	clear(x.Entries[:cap(x.Entries)])
	if !wire.Eq(y, full(5, 1, 2, 9)) {
		t.Error("Hear: two answers share memory")
	}
	wantHeard(t, g, full(5, 1, 2, 9))
}

func TestP0_4NilIsEmpty(t *testing.T) {
	for _, b := range [][]byte{nil, {}} {
		if m, err := New(2).Hear(b); err != api.ErrForm || !isZero(m) {
			t.Errorf("Hear of nothing: %v, %d", m, err)
		}
	}
	m := pong(1, 6, 7)
	g := New(2)
	g.Sent(1, 6, 110)
	m.Entries = []api.Entry{}
	wantTook(t, g, m, 130, 0, 20)
}

func TestP0_5GramsAreTheirOwn(t *testing.T) {
	a, b := New(2), New(2)
	wantHeard(t, a, msg(1, 2, 5))
	a.Sent(1, 6, 110)
	b.Sent(1, 6, 100)
	wantHeard(t, b, msg(1, 2, 4))
	for range 3 {
		wantBoots(t, a, 5)
		wantBoots(t, b, 4)
		wantTook(t, a, pong(1, 6, 7), 130, 0, 20)
		wantTook(t, b, pong(1, 6, 7), 130, 0, 30)
		wantRefused(t, a, msg(1, 2, 4), api.ErrOld)
		wantHeard(t, b, msg(1, 2, 4))
	}
	wantBoots(t, New(2))
}

func FuzzGram(f *testing.F) {
	f.Add([]byte{})
	f.Add([]byte("\x01\x02\x03\x00\x01\x02\x03\x04\x05\x06\x07\x08\x09\x0a"))
	f.Add([]byte("the quick brown fox jumps over the lazy dog"))
	f.Add(wire.Encode(full(5, 1, 2, 9)))
	f.Fuzz(func(t *testing.T, b []byte) {
		g, x := New(2), &model{me: 2}
		got, err := g.Hear(b)
		if want, wantErr := x.hear(b); err != wantErr || !wire.Eq(got, want) {
			t.Fatalf("Hear(%x): %v, %d; want %v, %d", b, got, err, want, wantErr)
		}
		next := func(n int) int {
			if len(b) == 0 {
				return 0
			}
			c := int(b[0])
			b = b[1:]
			return c % n
		}
		script(t, next, min(80, len(b)/5+1))
	})
}
