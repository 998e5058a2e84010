package wheel

import (
	"math"
	"math/rand"
	"slices"
	"sort"
	"testing"

	"curfew/api"
)

const (
	greatest = int64(1) << 40 // of times
	lastID   = 63
)

// goodTimes are those about 0 and about the bounds, which count, and noTimes those next to them, with those that a narrower number would take for good ones.
func goodTimes() []int64 {
	l := []int64{1 << 31, 1 << 32, -1 << 31, -1 << 32, 1<<32 + 5}
	for d := range int64(4) {
		l = append(l, d, -d, 10+d, greatest-d, -greatest+d)
	}
	return l
}

func noTimes() []int64 {
	l := []int64{1 << 41, -1 << 41, 1 << 48, 1<<48 + 3, 1 << 62, -1 << 62}
	for d := range int64(4) {
		l = append(l, greatest+1+d, -greatest-1-d, math.MaxInt64-d, math.MinInt64+d)
	}
	return l
}

// noIDs are ids that there are none of.
func noIDs() []int {
	l := []int{math.MaxInt, math.MinInt, math.MaxInt - 1, math.MinInt + 1, math.MinInt + 3}
	for d := 1; d <= 70; d++ {
		l = append(l, lastID+d, -d)
	}
	for _, far := range []int{1 << 8, 1 << 16, 1 << 31, 1 << 32, 1 << 62} {
		l = append(l, far, far+3, -far, -far+3)
	}
	return l
}

func isNoTime(a int64) bool { return a < -greatest || a > greatest }

// model keeps timers by the words of the chapter.
type model struct {
	now int64
	at  map[int]int64
}

func newModel(now int64) *model {
	if isNoTime(now) {
		now = 0
	}
	return &model{now, map[int]int64{}}
}

func (m *model) set(id int, at int64) api.Errno {
	if id < 0 || id > lastID || isNoTime(at) {
		return api.ErrRange
	}
	m.at[id] = at
	return api.OK
}

func (m *model) stop(id int) bool {
	_, was := m.at[id]
	delete(m.at, id)
	return was
}

func (m *model) next() (int64, bool) {
	first, ok := int64(0), false
	for _, at := range m.at {
		if !ok || at < first {
			first, ok = at, true
		}
	}
	return first, ok
}

func (m *model) goTo(now int64) []int {
	if isNoTime(now) || now < m.now {
		return nil
	}
	m.now = now
	var ids []int
	for id, at := range m.at {
		if at <= now {
			ids = append(ids, id)
		}
	}
	sort.Slice(ids, func(i, j int) bool {
		a, b := ids[i], ids[j]
		return m.at[a] < m.at[b] || m.at[a] == m.at[b] && a < b
	})
	for _, id := range ids {
		delete(m.at, id)
	}
	return ids
}

// pair is a wheel and its model, which are told the same.
type pair struct {
	t *testing.T
	w *Wheel
	m *model
}

func newPair(t *testing.T, now int64) pair { return pair{t, New(now), newModel(now)} }

func (p pair) set(id int, at int64) {
	p.t.Helper()
	if got, want := p.w.Set(id, at), p.m.set(id, at); got != want {
		p.t.Errorf("Set(%d, %d): %d; want %d", id, at, got, want)
	}
}

func (p pair) stop(id int) {
	p.t.Helper()
	if got, want := p.w.Stop(id), p.m.stop(id); got != want {
		p.t.Errorf("Stop(%d): %v; want %v", id, got, want)
	}
}

func (p pair) goTo(now int64) {
	p.t.Helper()
	if got, want := p.w.Go(now), p.m.goTo(now); !slices.Equal(got, want) {
		p.t.Errorf("Go(%d): %v; want %v", now, got, want)
	}
}

// check holds all that a wheel tells against the model.
func (p pair) check() {
	p.t.Helper()
	for id := -70; id <= 2*lastID+10; id++ {
		p.checkAt(id)
	}
	want, wantOK := p.m.next()
	if got, ok := p.w.Next(); got != want || ok != wantOK {
		p.t.Errorf("Next: %d, %v; want %d, %v", got, ok, want, wantOK)
	}
	if got := p.w.Now(); got != p.m.now {
		p.t.Errorf("Now: %d; want %d", got, p.m.now)
	}
	if got := p.w.Len(); got != len(p.m.at) {
		p.t.Errorf("Len: %d; want %d", got, len(p.m.at))
	}
}

func (p pair) checkAt(id int) {
	p.t.Helper()
	want, wantOK := p.m.at[id]
	if got, ok := p.w.At(id); got != want || ok != wantOK {
		p.t.Errorf("At(%d): %d, %v; want %d, %v", id, got, ok, want, wantOK)
	}
}

func checkList(t *testing.T, got []int, want ...int) {
	t.Helper()
	if !slices.Equal(got, want) {
		t.Errorf("Go: %v; want %v", got, want)
	}
}

func TestP7_1New(t *testing.T) {
	for _, now := range goodTimes() {
		newPair(t, now).check()
		if got := New(now).Now(); got != now {
			t.Errorf("New(%d).Now: %d", now, got)
		}
	}
	for _, now := range noTimes() {
		newPair(t, now).check()
		if got := New(now).Now(); got != 0 {
			t.Errorf("New(%d).Now: %d; want 0", now, got)
		}
	}
}

// What goes off goes by the time that New took, be it 0 for one that is none.
func TestP7_1NewGoesFromThere(t *testing.T) {
	for _, now := range append(goodTimes(), noTimes()...) {
		p := newPair(t, now)
		p.set(4, p.m.now)
		p.goTo(p.m.now - 1)
		p.check()
		p.goTo(p.m.now)
		p.check()
	}
}

func TestP7_1SetEachID(t *testing.T) {
	p := newPair(t, 0)
	for id := 0; id <= lastID; id++ {
		p.set(id, int64(1000-id))
		p.check()
	}
	if got := p.w.Len(); got != 64 {
		t.Errorf("Len: %d; want 64", got)
	}
	for id := 0; id <= lastID; id++ {
		p.stop(id)
		p.check()
		p.stop(id)
		p.check()
	}
}

func TestP7_1SetWrongID(t *testing.T) {
	p := newPair(t, 3)
	p.set(0, 7)
	p.set(lastID, 8)
	for _, id := range noIDs() {
		for _, at := range []int64{0, 5, -5, greatest, greatest + 1} {
			if got := p.w.Set(id, at); got != api.ErrRange {
				t.Errorf("Set(%d, %d): %d; want %d", id, at, got, api.ErrRange)
			}
		}
		p.stop(id)
		p.checkAt(id)
	}
	p.check()
}

func TestP7_1SetAt(t *testing.T) {
	for _, at := range goodTimes() {
		p := newPair(t, 0)
		p.set(9, at)
		if got, ok := p.w.At(9); got != at || !ok {
			t.Errorf("At(9): %d, %v; want %d", got, ok, at)
		}
		p.check()
	}
}

// A Set that is refused leaves what was set, or was not, as it is.
func TestP7_1SetNoTime(t *testing.T) {
	p := newPair(t, 3)
	p.set(5, 20)
	for _, at := range noTimes() {
		for _, id := range []int{0, 5, lastID} {
			if got := p.w.Set(id, at); got != api.ErrRange {
				t.Errorf("Set(%d, %d): %d; want %d", id, at, got, api.ErrRange)
			}
		}
		p.check()
	}
}

// A timer that is set again goes off at its last time alone, earlier or later.
func TestP7_1SetAgain(t *testing.T) {
	w := New(0)
	for _, at := range []int64{50, 10, 30} {
		if got := w.Set(2, at); got != api.OK {
			t.Errorf("Set(2, %d): %d", at, got)
		}
		if got, ok := w.At(2); got != at || !ok || w.Len() != 1 {
			t.Errorf("At(2): %d, %v, of %d; want %d", got, ok, w.Len(), at)
		}
	}
	checkList(t, w.Go(29))
	checkList(t, w.Go(30), 2)
	checkList(t, w.Go(60))
	w.Set(2, 70)
	checkList(t, w.Go(80), 2)
}

func TestP7_1StopDoesNotGoOff(t *testing.T) {
	w := New(0)
	for id := range 5 {
		w.Set(id, 10)
	}
	if !w.Stop(1) || !w.Stop(3) || w.Stop(3) || w.Stop(5) || w.Len() != 3 {
		t.Errorf("Stop: %d left; want 3", w.Len())
	}
	if got, ok := w.At(3); got != 0 || ok {
		t.Errorf("At(3): %d, %v; want none", got, ok)
	}
	checkList(t, w.Go(10), 0, 2, 4)
	if w.Stop(2) {
		t.Error("Stop(2) of one that went off: true")
	}
	w.Set(3, 11)
	checkList(t, w.Go(11), 3)
}

func TestP7_1Next(t *testing.T) {
	p := newPair(t, 100)
	p.check()
	for _, x := range []struct {
		id int
		at int64
	}{{9, 30}, {4, 40}, {63, 0}, {0, 5}, {62, -7}, {1, -greatest}, {2, greatest}} {
		p.set(x.id, x.at)
		p.check()
	}
	for _, id := range []int{1, 63, 62, 4, 0, 2, 9} {
		p.stop(id)
		p.check()
	}
}

// The earliest is told where it is 0, or the last time there is, as any other.
func TestP7_1NextOfOne(t *testing.T) {
	for _, at := range goodTimes() {
		w := New(0)
		w.Set(lastID, at)
		if got, ok := w.Next(); got != at || !ok {
			t.Errorf("Next: %d, %v; want %d", got, ok, at)
		}
	}
}

func TestP7_1GoAtNowOrAhead(t *testing.T) {
	w := New(10)
	w.Set(1, 19)
	w.Set(2, 20)
	w.Set(3, 21)
	w.Set(4, -greatest)
	w.Set(5, 10)
	checkList(t, w.Go(10), 4, 5)
	checkList(t, w.Go(18))
	checkList(t, w.Go(20), 1, 2)
	checkList(t, w.Go(20))
	w.Set(6, 20)
	checkList(t, w.Go(20), 6)
	checkList(t, w.Go(greatest), 3)
	if w.Len() != 0 || w.Now() != greatest {
		t.Errorf("%d left, at %d; want none, at %d", w.Len(), w.Now(), greatest)
	}
}

func TestP7_1GoEarliestFirstThenLesserID(t *testing.T) {
	w := New(0)
	for id := 0; id <= lastID; id++ {
		w.Set(lastID-id, int64(id%4))
	}
	var want []int
	for at := 0; at < 4; at++ {
		for id := 0; id <= lastID; id++ {
			if (lastID-id)%4 == at {
				want = append(want, id)
			}
		}
	}
	checkList(t, w.Go(2), want[:48]...)
	checkList(t, w.Go(3), want[48:]...)
}

// Who is set last, or set again, comes no later for that.
func TestP7_1GoOrderIsNotThatOfSet(t *testing.T) {
	for _, order := range [][]int{{0, 1, 2, 63}, {63, 2, 1, 0}, {2, 0, 63, 1}} {
		w := New(0)
		for _, id := range order {
			w.Set(id, 99)
			w.Set(id, 5)
		}
		w.Set(40, 4)
		checkList(t, w.Go(5), 40, 0, 1, 2, 63)
	}
}

func TestP7_1GoBack(t *testing.T) {
	p := newPair(t, 10)
	p.set(1, 5)
	p.set(2, 9)
	p.set(3, -greatest)
	for _, now := range []int64{9, 8, 0, -1, -greatest} {
		p.goTo(now)
		p.check()
	}
	p.goTo(12)
	p.set(4, 11)
	p.goTo(11)
	p.check()
	p.goTo(12)
	p.check()
}

func TestP7_1GoNoTime(t *testing.T) {
	p := newPair(t, 10)
	p.set(1, 5)
	p.set(2, greatest)
	for _, now := range noTimes() {
		if got := p.w.Go(now); len(got) != 0 {
			t.Errorf("Go(%d): %v; want none", now, got)
		}
		p.check()
	}
	p.goTo(greatest)
	p.check()
}

func TestP7_1GoFromTheFirstTimeToTheLast(t *testing.T) {
	p := newPair(t, -greatest)
	for k, at := range goodTimes() {
		p.set(k, at)
	}
	times := goodTimes()
	slices.Sort(times)
	for _, now := range times {
		p.goTo(now)
		p.check()
	}
}

func TestP7_1Nil(t *testing.T) {
	var w *Wheel
	for id := 0; id <= lastID; id++ {
		for _, at := range goodTimes() {
			if got := w.Set(id, at); got != api.ErrNone {
				t.Errorf("Set(%d, %d) of nil: %d; want %d", id, at, got, api.ErrNone)
			}
		}
	}
	for _, id := range append(noIDs(), 0, 1, lastID) {
		if w.Stop(id) {
			t.Errorf("Stop(%d) of nil: true", id)
		}
		if at, ok := w.At(id); at != 0 || ok {
			t.Errorf("At(%d) of nil: %d, %v", id, at, ok)
		}
	}
	for _, now := range append(goodTimes(), noTimes()...) {
		if got := w.Go(now); len(got) != 0 {
			t.Errorf("Go(%d) of nil: %v", now, got)
		}
	}
	if at, ok := w.Next(); at != 0 || ok || w.Now() != 0 || w.Len() != 0 {
		t.Errorf("of nil: Next %d, %v; Now %d; Len %d", at, ok, w.Now(), w.Len())
	}
}

// Of the errors of one call it is the one that the chapter names first.
func TestP0_2SetOfNil(t *testing.T) {
	var w *Wheel
	for _, id := range noIDs() {
		if got := w.Set(id, 0); got != api.ErrRange {
			t.Errorf("Set(%d, 0) of nil: %d; want %d", id, got, api.ErrRange)
		}
	}
	for _, at := range noTimes() {
		if got := w.Set(0, at); got != api.ErrRange {
			t.Errorf("Set(0, %d) of nil: %d; want %d", at, got, api.ErrRange)
		}
	}
}

func TestP0_1ZeroWheel(t *testing.T) {
	p := pair{t, &Wheel{}, newModel(0)}
	p.check()
	p.set(3, 4)
	p.goTo(4)
	p.check()
}

func TestP0_3AnswersAreNew(t *testing.T) {
	p := newPair(t, 0)
	var lists, kept [][]int
	for round := range int64(20) {
		for id := range int(round%5 + 1) {
			p.set(id, round)
		}
		p.set(50, 1000)
		got := p.w.Go(round)
		lists, kept = append(lists, got), append(kept, slices.Clone(got))
		p.m.goTo(round)
		p.check()
	}
	for i, l := range lists {
		if !slices.Equal(l, kept[i]) {
			t.Errorf("an answer changed: %v; want %v", l, kept[i])
		}
	}
	for i, l := range lists {
		l = l[:cap(l)]
		for k := range l {
			l[k] = -99
		}
		for j := i + 1; j < len(lists); j++ {
			if !slices.Equal(lists[j], kept[j]) {
				t.Fatalf("an answer changed with another one: %v; want %v", lists[j], kept[j])
			}
		}
		p.check()
	}
}

func TestP0_5WheelsShareNothing(t *testing.T) {
	p, q := newPair(t, 1), newPair(t, 1)
	p.set(1, 5)
	p.set(2, 6)
	q.set(1, 7)
	q.check()
	p.goTo(6)
	q.check()
	q.stop(1)
	p.check()
}

func TestP0_5AskingChangesNothing(t *testing.T) {
	p := newPair(t, 1)
	p.set(1, 5)
	p.set(2, 0)
	for range 3 {
		p.check()
	}
	p.goTo(5)
	p.check()
}

// randomTime is one about now, or any, or none.
func randomTime(r *rand.Rand, now int64) int64 {
	switch r.Intn(30) {
	case 0:
		return int64(r.Uint64())
	case 1:
		return r.Int63n(2*greatest+1) - greatest
	default:
		return now + r.Int63n(25) - 8
	}
}

func TestP7_1ManySteps(t *testing.T) {
	r := rand.New(rand.NewSource(7))
	for range 300 {
		p := newPair(t, randomTime(r, r.Int63n(100)-50))
		for range 300 {
			switch id := r.Intn(70) - 3; r.Intn(8) {
			case 0:
				p.stop(id)
			case 1:
				if now := randomTime(r, p.m.now); now < p.m.now+100 || isNoTime(now) {
					p.goTo(now)
				}
			case 2:
				p.checkAt(id)
			default:
				p.set(id, randomTime(r, p.m.now))
			}
		}
		p.check()
		p.goTo(p.m.now + 10)
		p.check()
		p.goTo(greatest)
		p.check()
	}
}

// FuzzWheel plays steps of three bytes: what is done, an id, a time from now on or, for the last ones, the one that is given.
func FuzzWheel(f *testing.F) {
	f.Add(int64(10), int64(1)<<40, []byte{0, 5, 20, 0, 3, 20, 0, 63, 10, 2, 0, 10, 2, 0, 10, 1, 3, 0})
	f.Add(int64(-1)<<40, int64(math.MinInt64), []byte{0, 64, 1, 0, 1, 255, 2, 0, 255, 3, 1, 0, 2, 0, 0})
	f.Fuzz(func(t *testing.T, now, far int64, steps []byte) {
		p := newPair(t, now)
		for ; len(steps) >= 3; steps = steps[3:] {
			id, at := int(steps[1])-20, p.m.now+int64(steps[2])-40
			if steps[2] > 250 {
				at = far
			}
			switch steps[0] % 4 {
			case 0:
				p.set(id, at)
			case 1:
				p.stop(id)
			case 2:
				p.goTo(at)
			case 3:
				p.check()
			}
		}
		p.check()
	})
}
