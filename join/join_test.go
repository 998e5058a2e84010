package join

import (
	"math"
	"math/rand"
	"slices"
	"strings"
	"testing"

	"curfew/api"
)

const greatest = int64(1) << 40 // of a start, of a view, and of an entry's numbers

// model is what was heard, by the words of the chapter: all words that came.
type model struct {
	me, n         int
	boot, promise int64
	words         []api.Msg
}

func mayJoin(me, n int, boot, promise int64) bool {
	return slices.Contains([]int{3, 4, 5, 6, 7}, n) && me >= 1 && me <= n && boot >= 1 && boot <= greatest && promise >= 0 && promise <= greatest
}

func (m *model) ask() []api.Msg {
	var l []api.Msg
	for to := 1; to <= m.n; to++ {
		if to == m.me {
			continue
		}
		l = append(l, api.Msg{Kind: 10, From: m.me, To: to, Boot: m.boot, Num: m.boot})
	}
	return l
}

// wrongs tells which of what the chapter asks of a word does not hold.
func (m *model) wrongs(x api.Msg) []string {
	var l []string
	add := func(what string, ok bool) {
		if !ok {
			l = append(l, what)
		}
	}
	add("one was ahead", len(m.words) == 0)
	add("kind", x.Kind == 11)
	add("to", x.To == m.me)
	add("yes", x.Yes)
	add("num", x.Num == m.boot)
	add("early view", x.View >= m.promise)
	add("no view", x.View >= 1)
	add("decider", x.View >= 1 && int64(x.From) == decider(x.View, m.n))
	add("members", mostOf(x.Members, m.n))
	add("no member", isMember(x.From, x.Members))
	add("no log", isLog(x.Entries))
	add("commit", x.Commit <= len(x.Entries))
	return l
}

func (m *model) hear(x api.Msg) bool {
	if len(m.wrongs(x)) > 0 {
		return false
	}
	x.Entries = slices.Clone(x.Entries)
	m.words = append(m.words, x)
	return true
}

// decider counts on from the view 1, which is the process 1's.
func decider(view int64, n int) int64 {
	if rest := view % int64(n); rest != 0 {
		return rest
	}
	return int64(n)
}

func mostOf(members, n int) bool {
	if members < 0 || members >= 1<<n {
		return false
	}
	count := 0
	for ; members > 0; members /= 2 {
		count += members % 2
	}
	return 2*count > n
}

func isMember(id, members int) bool {
	return id >= 1 && id <= 7 && members>>(id-1)&1 == 1
}

// isLog tells, by the words of log's chapter, whether each of them is added behind those ahead.
func isLog(l []api.Entry) bool {
	for i, x := range l {
		if i >= 60 || !mayBe(x) || i > 0 && x.Stamp < l[i-1].Stamp {
			return false
		}
		for _, y := range l[:i] {
			if x.From == y.From && x.Boot == y.Boot && x.Seq == y.Seq {
				return false
			}
		}
	}
	return true
}

func mayBe(e api.Entry) bool {
	return e.From >= 1 && e.From <= 7 && e.Boot >= 1 && e.Boot <= greatest && e.Seq >= 1 && e.Seq <= greatest &&
		e.Order >= 0 && e.Order <= 2 && e.Level >= 0 && e.Level <= 2 && e.Stamp >= 0 && e.Stamp <= greatest && len(e.Data) <= 16
}

// e gives an entry that may be.
func e(seq, stamp int64) api.Entry { return api.Entry{From: 1, Boot: 1, Seq: seq, Stamp: stamp} }

// run gives a log of so many entries.
func run(size int) []api.Entry {
	var l []api.Entry
	for i := range size {
		l = append(l, api.Entry{From: 1 + i%7, Boot: int64(1 + i%3), Seq: int64(i + 1), Order: i % 3, Level: i / 3 % 3, Stamp: int64(i / 2), Data: "at " + string(rune('0'+i))})
	}
	return l
}

// word gives one for the process: of all members, of the first view that may be, with so many entries.
func (m *model) word(size int) api.Msg {
	view := max(m.promise, 1)
	return api.Msg{
		Kind: api.MState, From: int(decider(view, m.n)), To: m.me, Boot: 77, View: view, Members: 1<<m.n - 1,
		Entries: run(size), Commit: size / 2, Num: m.boot, Yes: true,
	}
}

func eq(a, b api.Msg) bool {
	return a.Kind == b.Kind && a.From == b.From && a.To == b.To && a.Boot == b.Boot && a.View == b.View && a.Last == b.Last && a.Members == b.Members &&
		a.At == b.At && slices.Equal(a.Entries, b.Entries) && a.Commit == b.Commit && a.Num == b.Num && a.Clock == b.Clock && a.Yes == b.Yes
}

func made(t *testing.T, me, n int, boot, promise int64) (*Join, *model) {
	t.Helper()
	j, m := New(me, n, boot, promise), &model{me: me, n: n, boot: boot, promise: promise}
	if j == nil {
		t.Fatalf("New(%d, %d, %d, %d): nil", me, n, boot, promise)
	}
	wantJoin(t, j, m)
	return j, m
}

// wantJoin holds all that a Join tells; telling it changes nothing.
func wantJoin(t *testing.T, j *Join, m *model) {
	t.Helper()
	for range 2 {
		if got, want := j.Ask(), m.ask(); !slices.EqualFunc(got, want, eq) {
			t.Fatalf("of %d, %d, %d, %d: Ask: %v; want %v", m.me, m.n, m.boot, m.promise, got, want)
		}
		var want api.Msg
		if len(m.words) > 0 {
			want = m.words[0]
		}
		if got, ok := j.Got(); ok != (len(m.words) > 0) || !eq(got, want) {
			t.Fatalf("of %d, %d, %d, %d: Got: %v, %v; want %v", m.me, m.n, m.boot, m.promise, got, ok, want)
		}
	}
}

// hear holds Hear, and what is told behind it, against the model.
func hear(t *testing.T, j *Join, m *model, x api.Msg) bool {
	t.Helper()
	wrongs := m.wrongs(x)
	want := m.hear(x)
	if got := j.Hear(x); got != want {
		t.Fatalf("of %d, %d, %d, %d: Hear(%v), %d entries: %v; want %v: %v", m.me, m.n, m.boot, m.promise, x, len(x.Entries), got, want, wrongs)
	}
	wantJoin(t, j, m)
	return want
}

// wantHear is hear where the answer is known.
func wantHear(t *testing.T, j *Join, m *model, x api.Msg, want bool) {
	t.Helper()
	if got := hear(t, j, m, x); got != want {
		t.Errorf("of %d, %d, %d, %d: Hear(%v), %d entries: %v; want %v", m.me, m.n, m.boot, m.promise, x, len(x.Entries), got, want)
	}
}

// wantOf is wantHear at a new Join of a word that is changed: behind it none is the word any more, and what was refused takes no other one's place.
func wantOf(t *testing.T, me, n int, boot, promise int64, change func(x *api.Msg), want bool) {
	t.Helper()
	j, m := made(t, me, n, boot, promise)
	x := m.word(4)
	change(&x)
	wantHear(t, j, m, x, want)
	wantHear(t, j, m, x, false)
	wantHear(t, j, m, m.word(2), !want)
	wantHear(t, j, m, x, false)
}

func boots() []int64 {
	return []int64{1, 2, 3, 63, 64, 1<<31 - 1, 1 << 31, 1 << 32, 1<<32 + 1, greatest - 1, greatest}
}

func noBoots() []int64 {
	return []int64{0, -1, -2, -1 << 31, -1 << 32, -1<<32 + 5, -greatest, greatest + 1, greatest + 5, 1 << 41, 1 << 62, math.MaxInt64, math.MinInt64 + 1, math.MinInt64}
}

func promises() []int64 { return append(boots(), 0, 4, 5, 6, 7, 8) }

func noPromises() []int64 {
	return slices.DeleteFunc(noBoots(), func(n int64) bool { return n == 0 })
}

func noCounts() []int {
	return []int{math.MinInt, math.MinInt + 5, -1 << 32, -1<<32 + 5, -5, -3, -1, 0, 1, 2, 8, 9, 10, 63, 64, 67, 256 + 5, 1<<32 + 5, 1<<62 + 5, math.MaxInt}
}

func noIds(n int) []int {
	return []int{0, -1, -n, n + 1, n + 2, 8, 9, 64 + 1, 256 + 1, -256 + 1, 1<<32 + 1, -1<<32 + 1, 1<<62 + 1, math.MaxInt, math.MinInt, math.MinInt + 1}
}

func TestP24_1New(t *testing.T) {
	for n := 3; n <= 7; n++ {
		for me := 1; me <= n; me++ {
			for _, boot := range boots() {
				for _, promise := range promises() {
					made(t, me, n, boot, promise)
				}
			}
		}
	}
}

func TestP24_1NewOfWrongOnes(t *testing.T) {
	wantNil := func(me, n int, boot, promise int64) {
		t.Helper()
		if mayJoin(me, n, boot, promise) || New(me, n, boot, promise) != nil {
			t.Errorf("New(%d, %d, %d, %d): not nil", me, n, boot, promise)
		}
	}
	for _, boot := range append(boots(), noBoots()...) {
		for _, promise := range append(promises(), noPromises()...) {
			for _, n := range noCounts() {
				wantNil(1, n, boot, promise)
				wantNil(n, n, boot, promise)
			}
			for n := 3; n <= 7; n++ {
				for _, me := range noIds(n) {
					wantNil(me, n, boot, promise)
				}
			}
		}
	}
	for n := 3; n <= 7; n++ {
		for me := 1; me <= n; me++ {
			for _, boot := range noBoots() {
				for _, promise := range append(promises(), noPromises()...) {
					wantNil(me, n, boot, promise)
				}
			}
			for _, promise := range noPromises() {
				wantNil(me, n, 1, promise)
				wantNil(me, n, greatest, promise)
			}
		}
	}
}

func TestP24_1AskKnown(t *testing.T) {
	for _, x := range []struct {
		me, n int
		to    []int
	}{{1, 3, []int{2, 3}}, {2, 3, []int{1, 3}}, {3, 3, []int{1, 2}}, {2, 4, []int{1, 3, 4}}, {7, 7, []int{1, 2, 3, 4, 5, 6}}, {1, 7, []int{2, 3, 4, 5, 6, 7}}, {5, 6, []int{1, 2, 3, 4, 6}}} {
		l := New(x.me, x.n, 9, 70).Ask()
		if len(l) != len(x.to) {
			t.Fatalf("of %d, %d: Ask: %v", x.me, x.n, l)
		}
		for i, to := range x.to {
			if !eq(l[i], api.Msg{Kind: api.MJoin, From: x.me, To: to, Boot: 9, Num: 9}) {
				t.Errorf("of %d, %d: Ask: %v; want %d there", x.me, x.n, l[i], to)
			}
		}
	}
}

// What was heard changes nothing of what is asked.
func TestP24_1AskBehindTheWord(t *testing.T) {
	j, m := made(t, 2, 5, 9, 70)
	was := j.Ask()
	wantHear(t, j, m, m.word(7), true)
	if l := j.Ask(); !slices.EqualFunc(l, was, eq) || len(l) != 4 {
		t.Errorf("Ask: %v; want %v", l, was)
	}
}

func TestP24_1HearOfEach(t *testing.T) {
	for n := 3; n <= 7; n++ {
		for me := 1; me <= n; me++ {
			for _, boot := range boots() {
				for _, promise := range promises() {
					wantOf(t, me, n, boot, promise, func(x *api.Msg) {}, true)
				}
			}
		}
	}
}

func TestP24_1HearOfTheFirstWordAlone(t *testing.T) {
	j, m := made(t, 2, 4, 5, 7)
	first := m.word(3)
	wantHear(t, j, m, first, true)
	for _, view := range []int64{7, 8, 11, greatest} {
		x := m.word(20)
		x.View, x.From = view, int(decider(view, 4))
		wantHear(t, j, m, x, false)
	}
	if got, ok := j.Got(); !ok || !eq(got, first) {
		t.Errorf("Got: %v, %v; want %v", got, ok, first)
	}
}

func TestP24_1HearKind(t *testing.T) {
	for kind := -1; kind <= 20; kind++ {
		wantOf(t, 2, 4, 5, 7, func(x *api.Msg) { x.Kind = kind }, kind == api.MState)
	}
	for _, kind := range []int{math.MinInt, -api.MState, 1<<32 + api.MState, 256 + api.MState, math.MaxInt} {
		wantOf(t, 2, 4, 5, 7, func(x *api.Msg) { x.Kind = kind }, false)
	}
}

func TestP24_1HearTo(t *testing.T) {
	for n := 3; n <= 7; n++ {
		for me := 1; me <= n; me++ {
			for to := 1; to <= 7; to++ {
				wantOf(t, me, n, 5, 7, func(x *api.Msg) { x.To = to }, to == me)
			}
			for _, to := range append(noIds(n), -me, me+64, me+256, me+1<<32) {
				wantOf(t, me, n, 5, 7, func(x *api.Msg) { x.To = to }, false)
			}
		}
	}
}

func TestP24_1HearYes(t *testing.T) {
	wantOf(t, 2, 4, 5, 7, func(x *api.Msg) { x.Yes = false }, false)
}

// Num is this start's alone: the word for an elder one, or a later one, is not it. Boot is the start of who sent it, and is not asked.
func TestP24_1HearNum(t *testing.T) {
	for _, boot := range boots() {
		for _, num := range append(boots(), noBoots()...) {
			wantOf(t, 3, 5, boot, 7, func(x *api.Msg) { x.Num = num }, num == boot)
			wantOf(t, 3, 5, boot, 7, func(x *api.Msg) { x.Boot = num }, true)
			wantOf(t, 3, 5, boot, 7, func(x *api.Msg) { x.Boot, x.Num = boot, num }, num == boot)
		}
		for _, num := range []int64{boot - 1, boot + 1, -boot, boot + 1<<32, boot ^ math.MinInt64} {
			wantOf(t, 3, 5, boot, 7, func(x *api.Msg) { x.Num = num }, false)
		}
	}
}

func TestP24_1HearView(t *testing.T) {
	views := append(promises(), noPromises()...)
	for n := 3; n <= 7; n++ {
		for _, promise := range promises() {
			for _, view := range append(views, promise-2, promise-1, promise, promise+1, promise+2, promise+int64(n), promise+1<<32) {
				from := 1
				if view > 0 {
					from = int(decider(view, n))
				}
				wantOf(t, 2, n, 5, promise, func(x *api.Msg) { x.View, x.From = view, from }, view >= promise && view > 0)
			}
		}
	}
}

// Nobody decides the view 0, so that there is no word of it, whoever says so.
func TestP24_1HearViewZero(t *testing.T) {
	for n := 3; n <= 7; n++ {
		for from := -1; from <= 8; from++ {
			for _, view := range []int64{0, -1, -6, math.MinInt64} {
				wantOf(t, 1, n, 5, 0, func(x *api.Msg) { x.View, x.From = view, from }, false)
			}
		}
	}
}

func TestP24_1HearFrom(t *testing.T) {
	for n := 3; n <= 7; n++ {
		for view := int64(1); view <= 30; view++ {
			for from := 1; from <= 7; from++ {
				wantOf(t, 2, n, 5, 0, func(x *api.Msg) { x.View, x.From = view, from }, int64(from) == 1+(view-1)%int64(n))
			}
			for _, from := range append(noIds(n), -1, n+int(decider(view, n)), 64+int(decider(view, n)), 1<<32+int(decider(view, n))) {
				wantOf(t, 2, n, 5, 0, func(x *api.Msg) { x.View, x.From = view, from }, false)
			}
		}
	}
}

// Each team of each count, from each decider.
func TestP24_1HearMembers(t *testing.T) {
	for n := 3; n <= 7; n++ {
		for view := int64(1); view <= int64(n); view++ {
			for members := range 256 {
				j, m := made(t, 2, n, 5, 0)
				x := m.word(2)
				x.View, x.From, x.Members = view, int(view), members
				wantHear(t, j, m, x, mostOf(members, n) && isMember(int(view), members))
			}
		}
	}
}

func TestP24_1HearMembersKnown(t *testing.T) {
	for _, x := range []struct {
		n, members int
		want       bool
	}{
		{3, 1 | 2, true}, {3, 1 | 4, true}, {3, 1, false}, {3, 2 | 4, false}, {3, 1 | 8, false}, {3, 1 | 2 | 8, false},
		{4, 1 | 2, false}, {4, 1 | 2 | 8, true}, {4, 2 | 4 | 8, false}, {4, 15, true}, {4, 31, false},
		{5, 1 | 2 | 4, true}, {5, 1 | 16, false}, {6, 1 | 2 | 4, false}, {6, 1 | 2 | 4 | 8, true},
		{7, 1 | 2 | 4, false}, {7, 1 | 2 | 4 | 8, true}, {7, 127, true}, {7, 126, false}, {7, 255, false},
		{3, -1, false}, {7, -1, false}, {7, math.MinInt + 127, false}, {3, 1<<32 + 7, false}, {3, 1<<62 + 7, false}, {3, 0, false}, {3, math.MaxInt, false}, {3, math.MinInt, false},
	} {
		wantOf(t, 2, x.n, 5, 0, func(m *api.Msg) { m.Members = x.members }, x.want)
	}
}

// Who comes back need not be a member of the view.
func TestP24_1HearOfAViewWithoutMe(t *testing.T) {
	wantOf(t, 2, 4, 5, 7, func(x *api.Msg) { x.Members = 1 | 4 | 8 }, true)
	wantOf(t, 3, 3, 5, 1, func(x *api.Msg) { x.Members = 1 | 2 }, true)
}

// One's own view's word is one, too: the chapter does not ask that another one sent it.
func TestP24_1HearOfMyself(t *testing.T) {
	for n := 3; n <= 7; n++ {
		for me := 1; me <= n; me++ {
			wantOf(t, me, n, 5, int64(me+n), func(x *api.Msg) {}, true)
		}
	}
}

// wrongEntries are those that may not be, each for one field of it.
func wrongEntries() []api.Entry {
	l := []api.Entry{{}, {From: 1, Boot: 5, Seq: 5, Stamp: 50, Data: strings.Repeat("x", 17)}}
	for _, n := range []int64{math.MinInt64, -1, 0, greatest + 1, math.MaxInt64} {
		l = append(l, api.Entry{From: int(n), Boot: 5, Seq: 5, Stamp: 50}, api.Entry{From: 1, Boot: n, Seq: 5, Stamp: 50}, api.Entry{From: 1, Boot: 5, Seq: n, Stamp: 50})
	}
	for _, n := range []int{math.MinInt, -1, 3, 1 << 32, math.MaxInt} {
		l = append(l, api.Entry{From: 1, Boot: 5, Seq: 5, Stamp: 50, Order: n}, api.Entry{From: 1, Boot: 5, Seq: 5, Stamp: 50, Level: n})
	}
	for _, n := range []int64{math.MinInt64, -1, greatest + 1, math.MaxInt64} {
		l = append(l, api.Entry{From: 1, Boot: 5, Seq: 5, Stamp: n})
	}
	return append(l, api.Entry{From: 8, Boot: 5, Seq: 5, Stamp: 50})
}

func TestP24_1HearEntries(t *testing.T) {
	for _, l := range [][]api.Entry{
		nil, {}, {e(1, 0)}, {e(greatest, greatest)}, {e(2, 5), e(1, 5)}, {e(1, 5), e(2, 6)},
		{{From: 7, Boot: greatest, Seq: greatest, Order: 2, Level: 2, Stamp: greatest, Data: strings.Repeat("x", 16)}},
		{e(1, 0), {From: 2, Boot: 1, Seq: 1}, {From: 1, Boot: 2, Seq: 1}},
		run(59), run(60),
	} {
		for _, commit := range []int{0, len(l)} {
			wantOf(t, 2, 4, 5, 7, func(x *api.Msg) { x.Entries, x.Commit = l, commit }, true)
		}
	}
}

func TestP24_1HearEntriesThatAreNoLog(t *testing.T) {
	noLogs := [][]api.Entry{
		{e(1, 0), e(1, 0)}, {e(1, 0), e(2, 0), e(1, 7)}, {e(1, 1), e(2, 0)}, {e(1, 5), e(2, 7), e(3, 6)}, {e(1, 0), e(2, 1), e(3, 0), e(4, 2)},
		{e(1, 0), {From: 1, Boot: 1, Seq: 1, Order: 1, Level: 1, Stamp: 1, Data: "other"}},
		run(61), run(62), run(1000), slices.Concat(run(60), run(1)), append(run(60), api.Entry{}),
	}
	for _, x := range wrongEntries() {
		noLogs = append(noLogs, []api.Entry{x}, []api.Entry{e(1, 0), x}, []api.Entry{x, e(2, 70)}, []api.Entry{e(1, 0), x, e(2, 70)})
	}
	for _, l := range noLogs {
		for _, commit := range []int{0, 1, len(l) - 1, len(l)} {
			wantOf(t, 2, 4, 5, 7, func(x *api.Msg) { x.Entries, x.Commit = l, commit }, false)
		}
	}
}

// At most as many: one below 0 is that, too.
func TestP24_1HearCommit(t *testing.T) {
	for _, size := range []int{0, 1, 2, 3, 59, 60} {
		for _, commit := range []int{math.MinInt, -1 << 32, -60, -1, 0, 1, 2, 3, size - 1, size, size + 1, 59, 60, 61, 1 << 32, 1<<32 + 1, math.MaxInt} {
			wantOf(t, 2, 4, 5, 7, func(x *api.Msg) { x.Entries, x.Commit = run(size), commit }, commit <= size)
		}
	}
}

// What the chapter does not ask of the word may be anything, and is told as it was heard.
func TestP24_1HearAsksNothingElse(t *testing.T) {
	for _, n := range []int64{math.MinInt64, -1, 0, 1, 61, greatest, greatest + 1, math.MaxInt64} {
		for i, change := range []func(x *api.Msg){
			func(x *api.Msg) { x.Boot = n },
			func(x *api.Msg) { x.Last = n },
			func(x *api.Msg) { x.At = int(n) },
			func(x *api.Msg) { x.Clock = n },
			func(x *api.Msg) { x.Boot, x.Last, x.At, x.Clock = n, n, int(n), n },
		} {
			j, m := made(t, 2, 4, 5, 7)
			x := m.word(3)
			change(&x)
			wantHear(t, j, m, x, true)
			if got, ok := j.Got(); !ok || !eq(got, x) {
				t.Errorf("%d, %d: Got: %v, %v; want %v", i, n, got, ok, x)
			}
		}
	}
}

func TestP24_1GotKnown(t *testing.T) {
	j := New(2, 4, 5, 7)
	want := api.Msg{
		Kind: api.MState, From: 3, To: 2, Boot: 9, View: 11, Last: 4, Members: 1 | 4 | 8, At: 6,
		Entries: []api.Entry{e(1, 3), {From: 2, Boot: 4, Seq: 6, Order: 2, Level: 1, Stamp: 8, Data: "a=b"}}, Commit: 1, Num: 5, Clock: 70, Yes: true,
	}
	if m, ok := j.Got(); ok || !eq(m, api.Msg{}) {
		t.Errorf("Got ahead of the word: %v, %v", m, ok)
	}
	if !j.Hear(want) {
		t.Fatalf("Hear(%v): false", want)
	}
	if m, ok := j.Got(); !ok || !eq(m, want) {
		t.Errorf("Got: %v, %v; want %v", m, ok, want)
	}
}

// A nil one, and a zero one, which is of no processes.
func TestP24_1NilJoin(t *testing.T) {
	var none *Join
	_, m := made(t, 2, 4, 5, 7)
	for _, j := range []*Join{none, {}} {
		for _, x := range []api.Msg{
			{}, {Kind: api.MState, Yes: true}, {Kind: api.MState, View: 1, Yes: true}, {Kind: api.MState, From: 1, View: 1, Members: 7, Yes: true},
			m.word(0), m.word(3), {Kind: api.MState, From: 1, To: 1, View: 1, Members: 1, Yes: true}, {Kind: api.MState, From: 1, View: 1, Members: 1, Yes: true},
		} {
			if j.Hear(x) {
				t.Errorf("Hear(%v)", x)
			}
		}
		if x, ok := j.Got(); ok || !eq(x, api.Msg{}) || len(j.Ask()) != 0 {
			t.Errorf("%v, %v, %v", x, ok, j.Ask())
		}
	}
}

func TestP0_1LongLogs(t *testing.T) {
	j, m := made(t, 2, 4, 5, 7)
	long := make([]api.Entry, 1<<18)
	for i := range long {
		long[i] = e(int64(i+1), 0)
	}
	for _, l := range [][]api.Entry{make([]api.Entry, 1<<18), slices.Repeat([]api.Entry{e(1, 1)}, 1<<18), long} {
		x := m.word(0)
		x.Entries = l
		for _, commit := range []int{0, 60, len(l)} {
			x.Commit = commit
			if j.Hear(x) {
				t.Errorf("Hear of %d entries", len(l))
			}
		}
	}
	wantJoin(t, j, m)
	wantHear(t, j, m, m.word(60), true)
}

func TestP0_3ArgumentsStayAsTheyAre(t *testing.T) {
	for _, size := range []int{0, 1, 5, 59, 60, 61} {
		room := run(90)
		j, m := made(t, 2, 4, 5, 7)
		x := m.word(0)
		x.Entries = room[:size]
		wantHear(t, j, m, x, size <= 60)
		if !slices.Equal(room, run(90)) {
			t.Errorf("Hear of %d entries: the list, or its spare room, is another one", size)
		}
		// Nor is it kept.
		clear(room)
		wantJoin(t, j, m)
		got, _ := j.Got()
		for i := range got.Entries[:cap(got.Entries)] {
			got.Entries[:cap(got.Entries)][i] = e(9, 9)
		}
		if !slices.Equal(room, make([]api.Entry, len(room))) {
			t.Errorf("Got answers a list that was handed in: it is %v", room)
		}
	}
}

func TestP0_3AnswersAreNewMemory(t *testing.T) {
	for _, size := range []int{0, 1, 2, 5, 33, 60} {
		j, m := made(t, 2, 4, 5, 7)
		wantHear(t, j, m, m.word(size), true)
		a, _ := j.Got()
		b, _ := j.Got()
		clear(a.Entries[:cap(a.Entries)])
		if !eq(b, m.word(size)) {
			t.Errorf("two answers of Got share memory: %v", b)
		}
		wantJoin(t, j, m)
		l, k := j.Ask(), j.Ask()
		clear(l[:cap(l)])
		if !slices.EqualFunc(k, m.ask(), eq) {
			t.Errorf("two answers of Ask share memory: %v", k)
		}
		wantJoin(t, j, m)
	}
}

func TestP0_4NilIsEmpty(t *testing.T) {
	for _, l := range [][]api.Entry{nil, {}, run(5)[:0]} {
		wantOf(t, 2, 4, 5, 7, func(x *api.Msg) { x.Entries, x.Commit = l, 0 }, true)
		wantOf(t, 2, 4, 5, 7, func(x *api.Msg) { x.Entries, x.Commit = l, 1 }, false)
	}
}

func TestP0_5JoinsAreTheirOwn(t *testing.T) {
	j, m := made(t, 2, 4, 5, 7)
	k, o := made(t, 2, 4, 5, 7)
	copied, was := *j, *m
	wantHear(t, j, m, m.word(3), true)
	wantJoin(t, k, o)
	wantJoin(t, &copied, &was)
	wantHear(t, &copied, &was, m.word(9), true)
	wantHear(t, k, o, m.word(20), true)
	wantJoin(t, j, m)
	wantJoin(t, &copied, &was)
}

// spoilt is a word with one thing or another changed.
func spoilt(m *model, pick func(n int) int) api.Msg {
	x := m.word(pick(5))
	x.View += int64(pick(2 * m.n))
	x.From = int(decider(x.View, m.n))
	x.Last, x.At, x.Clock, x.Boot = int64(pick(5)), pick(5), int64(pick(90)), int64(pick(9))
	x.Commit = pick(len(x.Entries) + 1)
	for range pick(3) {
		spoil(m, &x, pick)
	}
	return x
}

func spoil(m *model, x *api.Msg, pick func(n int) int) {
	switch pick(12) {
	case 0:
		x.Kind = pick(15)
	case 1:
		x.To = pick(9)
	case 2:
		x.Yes = pick(4) == 0
	case 3:
		x.Num += int64(pick(3) - 1)
	case 4:
		x.View -= int64(m.n * (1 + pick(3)))
	case 5:
		x.View += int64(pick(5) - 2)
	case 6:
		x.From = pick(9)
	case 7:
		x.Members = pick(1 << m.n)
	case 8:
		x.Members = pick(256) - 1
	case 9:
		x.Commit = len(x.Entries) + pick(3)
	case 10:
		x.Entries = append(x.Entries, wrongEntries()[pick(len(wrongEntries()))])
	case 11:
		x.Entries = slices.Concat(x.Entries, run(pick(3)))
	}
}

// script holds a Join against the model at each step, and tells how often each kind of answer came: of what was wrong in one way alone, in which.
func script(t *testing.T, pick func(n int) int, steps int) map[string]int {
	t.Helper()
	came := map[string]int{}
	n := 3 + pick(5)
	j, m := made(t, 1+pick(n), n, boots()[pick(len(boots()))], promises()[pick(len(promises()))])
	for range steps {
		x := spoilt(m, pick)
		wrongs := m.wrongs(x)
		hear(t, j, m, x)
		switch len(wrongs) {
		case 0:
			came["the word"]++
		case 1:
			came[wrongs[0]]++
		default:
			came["wrong in more ways"]++
		}
	}
	return came
}

func TestP24Scripts(t *testing.T) {
	all := map[string]int{}
	for seed := range int64(60000) {
		for kind, n := range script(t, rand.New(rand.NewSource(seed)).Intn, 4) {
			all[kind] += n
		}
	}
	// The scripts are such that each kind of answer comes often.
	for _, kind := range []string{"the word", "one was ahead", "kind", "to", "yes", "num", "early view", "decider", "members", "no member", "no log", "commit", "wrong in more ways"} {
		if all[kind] < 200 {
			t.Errorf("%d answers: %s", all[kind], kind)
		}
	}
}

func FuzzJoin(f *testing.F) {
	f.Add([]byte{})
	f.Add([]byte{4, 2, 1, 2, 3, 4, 5, 6, 7, 8, 9, 10, 11, 12, 13, 14, 15, 16})
	f.Add([]byte("the quick brown fox jumps over the lazy dog"))
	f.Fuzz(func(t *testing.T, b []byte) {
		pick := func(n int) int {
			if len(b) == 0 {
				return 0
			}
			c := int(b[0])
			b = b[1:]
			return c % n
		}
		script(t, pick, min(40, len(b)/5+1))
	})
}
