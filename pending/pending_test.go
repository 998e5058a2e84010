package pending

import (
	"math"
	"math/rand"
	"slices"
	"strings"
	"testing"

	"curfew/api"
)

const (
	greatest = int64(1) << 40 // of a start, and of an entry's number
	room     = 4              // for those that wait
)

// model is what was told, by the words of the chapter: all that was added, and which of it waits no more.
type model struct {
	from  int
	boot  int64
	first int64 // the number of the first one, less 1
	added []api.Entry
	heard map[int64]bool // by Seq
}

func newModel(from int, boot int64) *model {
	return &model{from: from, boot: boot, heard: map[int64]bool{}}
}

func mayBe(e api.Entry) bool {
	return e.From >= 1 && e.From <= 7 && e.Boot >= 1 && e.Boot <= greatest && e.Seq >= 1 && e.Seq <= greatest &&
		e.Order >= 0 && e.Order <= 2 && e.Level >= 0 && e.Level <= 2 && e.Stamp == 0 && len(e.Data) <= 16
}

func (m *model) add(order, level int, data string) (api.Entry, api.Errno) {
	e := api.Entry{From: m.from, Boot: m.boot, Seq: m.first + int64(len(m.added)) + 1, Order: order, Level: level, Data: data}
	switch {
	case !mayBe(e):
		return api.Entry{}, api.ErrForm
	case len(m.list()) >= room:
		return api.Entry{}, api.ErrBusy
	}
	m.added = append(m.added, e)
	return e, api.OK
}

func (m *model) done(l []api.Entry) int {
	n := 0
	for _, x := range l {
		for _, e := range m.list() {
			if x.From == e.From && x.Boot == e.Boot && x.Seq == e.Seq {
				m.heard[e.Seq] = true
				n++
			}
		}
	}
	return n
}

func (m *model) list() []api.Entry {
	var l []api.Entry
	for _, e := range m.added {
		if !m.heard[e.Seq] {
			l = append(l, e)
		}
	}
	return l
}

// made gives a Pending in which so many wait, of which no two are the same but for their numbers.
func made(t *testing.T, from int, boot int64, size int) (*Pending, *model) {
	t.Helper()
	p, m := New(from, boot), newModel(from, boot)
	if p == nil {
		t.Fatalf("New(%d, %d): nil", from, boot)
	}
	wantPending(t, p, m)
	for i := range size {
		wantAdd(t, p, m, i%3, (i+1)%3, strings.Repeat("x", i), int64(i+1), api.OK)
	}
	return p, m
}

// wantPending holds all that a Pending tells; telling it changes nothing.
func wantPending(t *testing.T, p *Pending, m *model) {
	t.Helper()
	want := m.list()
	for range 2 {
		if got := p.List(); !slices.Equal(got, want) {
			t.Fatalf("of %d, %d: List: %v; want %v", m.from, m.boot, got, want)
		}
		if got := p.Len(); got != len(want) {
			t.Fatalf("of %d, %d: Len: %d; want %d", m.from, m.boot, got, len(want))
		}
	}
}

// add holds Add, and what is told behind it, against the model.
func add(t *testing.T, p *Pending, m *model, order, level int, data string) (api.Entry, api.Errno) {
	t.Helper()
	want, wantErr := m.add(order, level, data)
	if got, err := p.Add(order, level, data); got != want || err != wantErr {
		t.Fatalf("of %d, %d: Add(%d, %d, %.20q), %d bytes: %v, %d; want %v, %d", m.from, m.boot, order, level, data, len(data), got, err, want, wantErr)
	}
	wantPending(t, p, m)
	return want, wantErr
}

// wantAdd is add where the answer is known; beside an error the entry is a zero one.
func wantAdd(t *testing.T, p *Pending, m *model, order, level int, data string, seq int64, want api.Errno) {
	t.Helper()
	if e, err := add(t, p, m, order, level, data); err != want || e.Seq != seq || err != api.OK && e != (api.Entry{}) {
		t.Errorf("of %d, %d: Add(%d, %d, %.20q), %d bytes: %v, %d; want Seq %d, %d", m.from, m.boot, order, level, data, len(data), e, err, seq, want)
	}
}

// done holds Done, and what is told behind it, against the model.
func done(t *testing.T, p *Pending, m *model, l ...api.Entry) int {
	t.Helper()
	was := p.List()
	want := m.done(l)
	if got := p.Done(l); got != want {
		t.Fatalf("of %d, %d, %v wait: Done(%v): %d; want %d", m.from, m.boot, was, l, got, want)
	}
	wantPending(t, p, m)
	return want
}

// wantDone is done where the answer is known.
func wantDone(t *testing.T, p *Pending, m *model, want int, l ...api.Entry) {
	t.Helper()
	if got := done(t, p, m, l...); got != want {
		t.Errorf("of %d, %d: Done(%v): %d; want %d", m.from, m.boot, l, got, want)
	}
}

func (m *model) entry(seq int64) api.Entry {
	return api.Entry{From: m.from, Boot: m.boot, Seq: seq}
}

func boots() []int64 {
	return []int64{1, 2, 3, 63, 64, 1<<31 - 1, 1 << 31, 1 << 32, 1<<32 + 1, greatest - 1, greatest}
}

func noBoots() []int64 {
	return []int64{0, -1, -2, -1 << 31, -1 << 32, -1<<32 + 5, -greatest, greatest + 1, greatest + 5, 1 << 41, 1 << 62, math.MaxInt64, math.MinInt64 + 1, math.MinInt64}
}

func noIds() []int {
	return []int{0, -1, -7, 8, 9, 15, 64 + 3, 256 + 3, -256 + 3, 1<<32 + 3, -1<<32 + 3, 1<<62 + 3, math.MaxInt, math.MinInt, math.MinInt + 3}
}

// noKinds are neither orders nor levels.
func noKinds() []int {
	return []int{-1, -2, 3, 4, 9, 255, 256, 257, 1 << 32, 1<<32 + 1, -1 << 32, -1<<32 + 2, 1 << 62, math.MaxInt, math.MinInt, math.MinInt + 1}
}

func noData() []string {
	var l []string
	for _, n := range []int{17, 18, 32, 255, 256, 257, 272, 1 << 16, 1<<16 + 16, 1 << 20} {
		l = append(l, strings.Repeat("a", n), strings.Repeat("\xff", n))
	}
	return append(l, strings.Repeat("\u00e4", 9))
}

func TestP23_1New(t *testing.T) {
	for from := 1; from <= 7; from++ {
		for _, boot := range boots() {
			made(t, from, boot, 0)
			made(t, from, boot, room)
		}
		for _, boot := range noBoots() {
			if New(from, boot) != nil {
				t.Errorf("New(%d, %d): not nil", from, boot)
			}
		}
	}
	for _, from := range noIds() {
		for _, boot := range append(boots(), noBoots()...) {
			if New(from, boot) != nil {
				t.Errorf("New(%d, %d): not nil", from, boot)
			}
		}
	}
}

func TestP23_1AddKnown(t *testing.T) {
	p := New(3, 9)
	for i, want := range []api.Entry{
		{From: 3, Boot: 9, Seq: 1, Order: api.Total, Level: api.Strict, Data: "a=b"},
		{From: 3, Boot: 9, Seq: 2, Order: api.Timed, Level: api.Strong, Data: strings.Repeat("\xff", 16)},
		{From: 3, Boot: 9, Seq: 3, Order: api.Any, Level: api.Weak},
		{From: 3, Boot: 9, Seq: 4, Order: api.Any, Level: api.Strict, Data: "\x00"},
	} {
		if e, err := p.Add(want.Order, want.Level, want.Data); e != want || err != api.OK {
			t.Errorf("Add: %v, %d; want %v", e, err, want)
		}
		if l := p.List(); len(l) != i+1 || l[i] != want || p.Len() != i+1 {
			t.Errorf("List: %v; want %v at the end", l, want)
		}
	}
}

func TestP23_1AddOfEachKind(t *testing.T) {
	for order := range 3 {
		for level := range 3 {
			for _, n := range []int{0, 1, 15, 16} {
				for _, c := range []string{"\x00", "a", "=", "\x80", "\xff"} {
					p, m := made(t, 5, 70, 0)
					wantAdd(t, p, m, order, level, strings.Repeat(c, n), 1, api.OK)
				}
			}
		}
	}
	p, m := made(t, 5, 70, 0)
	wantAdd(t, p, m, 0, 0, strings.Repeat("\u00e4", 8), 1, api.OK)
}

// wantWrong holds that each wrong Add is told, whatever else is wrong with it, and that none of them changes anything.
func wantWrong(t *testing.T, p *Pending, m *model) {
	t.Helper()
	for i, kind := range noKinds() {
		wantAdd(t, p, m, kind, i%3, "", 0, api.ErrForm)
		wantAdd(t, p, m, i%3, kind, "a", 0, api.ErrForm)
		wantAdd(t, p, m, kind, kind, "", 0, api.ErrForm)
		wantAdd(t, p, m, kind, i%3, noData()[0], 0, api.ErrForm)
	}
	for i, data := range noData() {
		wantAdd(t, p, m, i%3, i/3%3, data, 0, api.ErrForm)
	}
}

// One that may not be takes no number and no room, and is told where there is no room, too.
func TestP23_1AddOfWrongOnes(t *testing.T) {
	for size := range int64(room + 1) {
		p, m := made(t, 7, greatest, int(size))
		wantWrong(t, p, m)
		if size < room {
			wantAdd(t, p, m, 2, 2, "y", size+1, api.OK)
		} else {
			wantAdd(t, p, m, 2, 2, "y", 0, api.ErrBusy)
		}
	}
}

// One for which there is no room takes no number, either, and does not come later.
func TestP23_1AddIsBusy(t *testing.T) {
	p, m := made(t, 1, 1, room)
	for range 5 {
		wantAdd(t, p, m, 1, 1, "late", 0, api.ErrBusy)
		wantAdd(t, p, m, 3, 1, "late", 0, api.ErrForm)
	}
	for seq := int64(1); seq < 100; seq++ {
		wantDone(t, p, m, 1, m.entry(seq))
		wantAdd(t, p, m, 0, 0, "", seq+4, api.OK)
		wantAdd(t, p, m, 0, 0, "", 0, api.ErrBusy)
	}
	wantDone(t, p, m, 4, m.list()...)
	for seq := int64(104); seq < 108; seq++ {
		wantAdd(t, p, m, 0, 0, "", seq, api.OK)
	}
	wantAdd(t, p, m, 0, 0, "", 0, api.ErrBusy)
}

// The numbers go on, whatever waits no more.
func TestP23_1SeqGoesOn(t *testing.T) {
	p, m := made(t, 2, 3, 0)
	for seq := int64(1); seq <= 3000; seq++ {
		wantAdd(t, p, m, 0, 0, "", seq, api.OK)
		wantDone(t, p, m, 1, m.entry(seq))
		if seq%100 == 0 {
			// What was gone over does not wait in the model, either.
			m.first, m.added = seq, nil
		}
	}
}

// There is no number above 2^40, so no further entry may be.
func TestP23_1AddAtTheLastNumber(t *testing.T) {
	p, m := made(t, 4, 8, 0)
	p.seq, m.first = greatest-2, greatest-2
	wantAdd(t, p, m, 0, 0, "", greatest-1, api.OK)
	wantAdd(t, p, m, 0, 0, "", greatest, api.OK)
	for range 3 {
		wantAdd(t, p, m, 0, 0, "", 0, api.ErrForm)
	}
	wantDone(t, p, m, 1, m.entry(greatest-1), m.entry(greatest+1), m.entry(1))
	wantAdd(t, p, m, 0, 0, "", 0, api.ErrForm)
	wantDone(t, p, m, 1, m.entry(greatest))
	wantAdd(t, p, m, 0, 0, "", 0, api.ErrForm)
}

// Each set of those that wait, in each of two orders.
func TestP23_1DoneOfEachSet(t *testing.T) {
	for size := range room + 1 {
		for set := range 1 << size {
			p, m := made(t, 6, 11, size)
			q, n := made(t, 6, 11, size)
			var l []api.Entry
			for i := range size {
				if set>>i&1 == 1 {
					l = append(l, m.entry(int64(i+1)))
				}
			}
			wantDone(t, p, m, len(l), l...)
			wantDone(t, p, m, 0, l...)
			slices.Reverse(l)
			wantDone(t, q, n, len(l), l...)
			for p.Len() < room {
				add(t, p, m, 1, 0, "more")
			}
			wantAdd(t, p, m, 1, 0, "", 0, api.ErrBusy)
			wantDone(t, p, m, room, m.list()...)
		}
	}
}

// Same is what is asked: of whose start, and which one. What else the entry says is not.
func TestP23_1DoneIsOfSameOnes(t *testing.T) {
	for _, x := range []api.Entry{
		{Order: 2, Level: 2, Stamp: 0, Data: "x"},
		{Order: 0, Level: 1, Stamp: greatest, Data: ""},
		{Order: 1, Level: 2, Stamp: 7, Data: "other"},
		{Order: -1, Level: 9, Stamp: -5, Data: strings.Repeat("z", 100)},
		{Order: math.MaxInt, Level: math.MinInt, Stamp: math.MinInt64},
	} {
		p, m := made(t, 3, 9, room)
		x.From, x.Boot, x.Seq = 3, 9, 2
		wantDone(t, p, m, 1, x)
	}
}

func TestP23_1DoneOfOthers(t *testing.T) {
	p, m := made(t, 3, 9, room)
	var l []api.Entry
	for _, from := range append(noIds(), 1, 2, 4, 5, 6, 7) {
		l = append(l, api.Entry{From: from, Boot: 9, Seq: 1}, api.Entry{From: from, Boot: 9, Seq: 4})
	}
	for _, boot := range append(noBoots(), 1, 8, 10, 9+1<<32, greatest) {
		l = append(l, api.Entry{From: 3, Boot: boot, Seq: 1}, api.Entry{From: 3, Boot: boot, Seq: 4})
	}
	for _, seq := range append(noBoots(), 5, 6, 9, 1<<32+1, 1<<32+4, greatest) {
		l = append(l, m.entry(seq))
	}
	l = append(l, api.Entry{}, api.Entry{From: 9, Boot: 3, Seq: 1}, api.Entry{From: 1, Boot: 9, Seq: 3})
	for _, x := range l {
		wantDone(t, p, m, 0, x)
	}
	wantDone(t, p, m, 0, l...)
	wantDone(t, p, m, 1, append(l, m.entry(3))...)
	wantDone(t, p, m, 2, append([]api.Entry{m.entry(4), m.entry(1)}, l...)...)
}

// One that stands in a list more than once waited once.
func TestP23_1DoneOfDoubledOnes(t *testing.T) {
	p, m := made(t, 3, 9, room)
	wantDone(t, p, m, 1, m.entry(2), m.entry(2), m.entry(2))
	wantDone(t, p, m, 2, m.entry(3), m.entry(2), m.entry(4), m.entry(3), m.entry(4))
	wantDone(t, p, m, 0, m.entry(2), m.entry(2))
	wantDone(t, p, m, 1, m.list()[0], m.entry(1), m.entry(4))
	wantDone(t, p, m, 0)
}

// Done is of those that wait then: one that is added later waits.
func TestP23_1DoneIsOfThoseThatWait(t *testing.T) {
	p, m := made(t, 3, 9, 1)
	wantDone(t, p, m, 1, m.entry(1), m.entry(2), m.entry(3))
	wantAdd(t, p, m, 0, 0, "", 2, api.OK)
	wantAdd(t, p, m, 0, 0, "", 3, api.OK)
	wantDone(t, p, m, 2, m.entry(1), m.entry(2), m.entry(3))
}

func TestP23_1ListIsBySeq(t *testing.T) {
	p, m := made(t, 3, 9, room)
	wantDone(t, p, m, 2, m.entry(3), m.entry(1))
	wantAdd(t, p, m, 2, 1, "e", 5, api.OK)
	wantAdd(t, p, m, 1, 2, "f", 6, api.OK)
	wantDone(t, p, m, 1, m.entry(5))
	wantAdd(t, p, m, 0, 0, "g", 7, api.OK)
	want := []int64{2, 4, 6, 7}
	for i, e := range p.List() {
		if e.Seq != want[i] {
			t.Errorf("List: %v; want the Seqs %v", p.List(), want)
		}
	}
}

func TestP23_1Nil(t *testing.T) {
	var p *Pending
	all := []api.Entry{{}, {From: 1, Boot: 1, Seq: 1}}
	for _, data := range []string{"", "a", noData()[0]} {
		for _, kind := range []int{0, 1, 2, -1, 3} {
			if e, err := p.Add(kind, kind, data); e != (api.Entry{}) || err != api.ErrDown {
				t.Errorf("nil: Add(%d, %d, %q): %v, %d", kind, kind, data, e, err)
			}
		}
	}
	if p.Done(nil) != 0 || p.Done(all) != 0 || len(p.List()) != 0 || p.Len() != 0 {
		t.Errorf("nil: Done %d, List %v, Len %d", p.Done(all), p.List(), p.Len())
	}
}

// A zero one is of no process, so no entry of it may be.
func TestP0_1Zero(t *testing.T) {
	p := new(Pending)
	m := newModel(0, 0)
	wantPending(t, p, m)
	wantAdd(t, p, m, 0, 0, "", 0, api.ErrForm)
	wantWrong(t, p, m)
	wantDone(t, p, m, 0, api.Entry{}, api.Entry{From: 1, Boot: 1, Seq: 1})
}

func TestP0_1LongLists(t *testing.T) {
	p, m := made(t, 3, 9, room)
	l := make([]api.Entry, 1<<20)
	for i := range l {
		l[i] = m.entry(int64(i + 5))
	}
	if n := p.Done(l); n != 0 {
		t.Errorf("Done of %d others: %d", len(l), n)
	}
	l[0], l[len(l)/2], l[len(l)-1] = m.entry(3), m.entry(4), m.entry(1)
	if n := p.Done(l); n != 3 || p.Len() != 1 || p.List()[0].Seq != 2 {
		t.Errorf("Done of %d: %d, %v are left", len(l), n, p.List())
	}
}

func TestP0_3ArgumentsStayAsTheyAre(t *testing.T) {
	p, m := made(t, 3, 9, room)
	l := []api.Entry{m.entry(4), m.entry(9), m.entry(2), m.entry(2), m.entry(1), m.entry(3), {Data: "spare"}}
	was := slices.Clone(l)
	wantDone(t, p, m, 3, l[:5]...)
	if p.Done(l[:5:7]) != 0 || !slices.Equal(l, was) {
		t.Errorf("Done: %v is %v now", was, l)
	}
	for i := range l {
		l[i] = m.entry(3)
	}
	wantPending(t, p, m)
	add(t, p, m, 0, 0, "")
	if l[5] != m.entry(3) || l[6] != m.entry(3) {
		t.Errorf("Add wrote into a list that was handed in: %v", l)
	}
}

func TestP0_3AnswersAreNewMemory(t *testing.T) {
	for size := range room + 1 {
		p, m := made(t, 3, 9, size)
		one, other := p.List(), p.List()
		clearAll(one)
		wantPending(t, p, m)
		if !slices.Equal(other, m.list()) {
			t.Errorf("List: two answers share memory: %v", other)
		}
		was := slices.Clone(other)
		add(t, p, m, 2, 2, "new")
		done(t, p, m, m.entry(1))
		add(t, p, m, 2, 2, "newer")
		done(t, p, m, m.entry(2))
		if !slices.Equal(other, was) {
			t.Errorf("List: %v is %v now", was, other)
		}
	}
}

// clearAll writes into a list, its spare room too.
func clearAll(l []api.Entry) { clear(l[:cap(l)]) }

func TestP0_4NilIsEmpty(t *testing.T) {
	for size := range room + 1 {
		p, m := made(t, 3, 9, size)
		if p.Done(nil) != 0 || p.Done([]api.Entry{}) != 0 {
			t.Errorf("%d wait: Done of none is not 0", size)
		}
		wantPending(t, p, m)
	}
}

func TestP0_5PendingsAreTheirOwn(t *testing.T) {
	p, m := made(t, 3, 9, 2)
	q, n := made(t, 3, 9, 1)
	wantDone(t, p, m, 1, m.entry(1))
	wantPending(t, q, n)
	wantAdd(t, q, n, 1, 1, "q", 2, api.OK)
	wantAdd(t, p, m, 1, 1, "p", 3, api.OK)
	wantPending(t, q, n)
	wantPending(t, p, m)
}

// chosen gives texts and kinds, mostly such as may be.
func chosen(pick func(n int) int) (int, int, string) {
	order, level, data := pick(3), pick(3), strings.Repeat(string(rune('a'+pick(26))), pick(17))
	switch pick(12) {
	case 0:
		order = noKinds()[pick(len(noKinds()))]
	case 1:
		level = noKinds()[pick(len(noKinds()))]
	case 2:
		data += strings.Repeat("b", 17-len(data)+pick(3))
	}
	return order, level, data
}

// chosenList gives entries, some of them Same as one that waits, waited, or will.
func (m *model) chosenList(pick func(n int) int) []api.Entry {
	var l []api.Entry
	for range pick(5) {
		x := m.entry(max(1, int64(len(m.added)-6+pick(9))))
		x.Stamp = int64(pick(100))
		switch pick(9) {
		case 0:
			x.From = 1 + pick(7)
		case 1:
			x.Boot += int64(pick(3) - 1)
		case 2:
			x.Seq = -x.Seq
		}
		l = append(l, x)
	}
	return l
}

// script holds a Pending against the model at each step, and tells how often each kind of answer came.
func script(t *testing.T, pick func(n int) int, steps int) map[string]int {
	t.Helper()
	came := map[string]int{}
	p, m := made(t, 1+pick(7), boots()[pick(len(boots()))], 0)
	for range steps {
		if pick(5) < 3 {
			order, level, data := chosen(pick)
			switch _, err := add(t, p, m, order, level, data); err {
			case api.OK:
				came["added"]++
			case api.ErrForm:
				came["wrong"]++
			case api.ErrBusy:
				came["busy"]++
			}
			continue
		}
		switch done(t, p, m, m.chosenList(pick)...) {
		case 0:
			came["none done"]++
		case 1:
			came["one done"]++
		default:
			came["more done"]++
		}
	}
	return came
}

func TestP23Scripts(t *testing.T) {
	all := map[string]int{}
	for seed := range int64(2000) {
		for kind, n := range script(t, rand.New(rand.NewSource(seed)).Intn, 60) {
			all[kind] += n
		}
	}
	// The scripts are such that each kind of answer comes often.
	for _, kind := range []string{"added", "wrong", "busy", "none done", "one done", "more done"} {
		if all[kind] < 1000 {
			t.Errorf("%d answers: %s", all[kind], kind)
		}
	}
}

func FuzzPending(f *testing.F) {
	f.Add([]byte{})
	f.Add([]byte{4, 31, 2, 0, 1, 2, 3, 4, 5, 6, 7, 8, 9, 10, 11, 12, 13, 14, 15, 16})
	f.Add([]byte("the quick brown fox jumps over the lazy dog"))
	f.Fuzz(func(t *testing.T, b []byte) {
		pick := func(n int) int {
			if len(b) == 0 {
				return 0
			}
			c := int(b[0])
			b = b[1:]
			return c % n
		}
		script(t, pick, min(60, len(b)/4+1))
	})
}
