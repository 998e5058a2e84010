package vote

import (
	"math"
	"math/rand"
	"slices"
	"strings"
	"testing"

	"curfew/api"
	"curfew/team"
)

const greatest = int64(1) << 40 // of an entry's numbers

// model is what was voted, by the words of the chapter: the votes that count, in the order in which they came.
type model struct {
	view  int64
	n     int
	votes []Vote
}

func (m *model) add(x Vote) bool {
	if x.From < 1 || x.From > m.n || x.Last < 0 || x.Last > m.view-1 || !isLog(x.Log) || x.Commit < 0 || x.Commit > len(x.Log) {
		return false
	}
	for _, y := range m.votes {
		if y.From == x.From {
			return false
		}
	}
	x.Log = slices.Clone(x.Log)
	m.votes = append(m.votes, x)
	return true
}

func (m *model) team() int {
	bits := 0
	for _, x := range m.votes {
		bits += 1 << (x.From - 1)
	}
	return bits
}

func (m *model) enough() bool { return 2*len(m.votes) > m.n }

// best takes the greatest Last of all, then the longest Log of those that have it, then the least From of what is left.
func (m *model) best() (Vote, bool) {
	if !m.enough() {
		return Vote{}, false
	}
	left, commit := m.votes, 0
	for _, x := range m.votes {
		commit = max(commit, x.Commit)
	}
	for _, rank := range []func(x Vote) int64{
		func(x Vote) int64 { return x.Last },
		func(x Vote) int64 { return int64(len(x.Log)) },
		func(x Vote) int64 { return -int64(x.From) },
	} {
		greatest := int64(math.MinInt64)
		for _, x := range left {
			greatest = max(greatest, rank(x))
		}
		left = slices.DeleteFunc(slices.Clone(left), func(x Vote) bool { return rank(x) < greatest })
	}
	x := left[0]
	if x.Commit = commit; commit > len(x.Log) {
		x.Commit = len(x.Log)
	}
	return x, true
}

// isLog tells, by the words of log's chapter, whether each of them is added behind those ahead.
func isLog(l []api.Entry) bool {
	for i, x := range l {
		if i >= 60 || !mayBe(x) || i > 0 && x.Stamp < l[i-1].Stamp {
			return false
		}
		for _, y := range l[:i] {
			if x.From == y.From && x.Boot == y.Boot && x.Seq == y.Seq {
				return false
			}
		}
	}
	return true
}

func mayBe(e api.Entry) bool {
	return e.From >= 1 && e.From <= 7 && e.Boot >= 1 && e.Boot <= greatest && e.Seq >= 1 && e.Seq <= greatest &&
		e.Order >= 0 && e.Order <= 2 && e.Level >= 0 && e.Level <= 2 && e.Stamp >= 0 && e.Stamp <= greatest && len(e.Data) <= 16
}

// e gives an entry that may be.
func e(seq, stamp int64) api.Entry { return api.Entry{From: 1, Boot: 1, Seq: seq, Stamp: stamp} }

// run gives a log of so many entries, which another one's is not.
func run(id, size int) []api.Entry {
	var l []api.Entry
	for i := range size {
		l = append(l, api.Entry{From: 1 + i%7, Boot: int64(id), Seq: int64(i + 1), Order: i % 3, Level: i / 3 % 3, Stamp: int64(i / 2), Data: "of " + string(rune('0'+id))})
	}
	return l
}

// of is a vote of id, with a log of its own.
func of(id int, last int64, size, commit int) Vote {
	return Vote{From: id, Last: last, Log: run(id, size), Commit: commit}
}

func eq(a, b Vote) bool {
	return a.From == b.From && a.Last == b.Last && slices.Equal(a.Log, b.Log) && a.Commit == b.Commit
}

// made gives Votes in which these have voted.
func made(t *testing.T, view int64, n int, l ...Vote) (*Votes, *model) {
	t.Helper()
	v, m := New(view, n), &model{view: view, n: n}
	if v == nil {
		t.Fatalf("New(%d, %d): nil", view, n)
	}
	wantVotes(t, v, m)
	for _, x := range l {
		add(t, v, m, x)
	}
	return v, m
}

// add holds Add, and what is told behind it, against the model.
func add(t *testing.T, v *Votes, m *model, x Vote) {
	t.Helper()
	want := m.add(x)
	if got := v.Add(x); got != want {
		t.Errorf("view %d of %d: Add of %d, Last %d, %d entries, Commit %d: %v; want %v", m.view, m.n, x.From, x.Last, len(x.Log), x.Commit, got, want)
	}
	wantVotes(t, v, m)
}

// wantAdd is add where the answer is known.
func wantAdd(t *testing.T, v *Votes, m *model, x Vote, want bool) {
	t.Helper()
	was := len(m.votes)
	add(t, v, m, x)
	if len(m.votes) > was != want {
		t.Errorf("view %d of %d: Add of %d, Last %d, %d entries, Commit %d: %v; want %v", m.view, m.n, x.From, x.Last, len(x.Log), x.Commit, !want, want)
	}
}

// wantVotes holds all that Votes tell; telling it changes nothing.
func wantVotes(t *testing.T, v *Votes, m *model) {
	t.Helper()
	for range 2 {
		if v.View() != m.view || int(v.Team()) != m.team() || v.Enough() != m.enough() {
			t.Fatalf("View %d, Team %b, Enough %v; want %d, %b, %v", v.View(), v.Team(), v.Enough(), m.view, m.team(), m.enough())
		}
		want, is := m.best()
		if got, ok := v.Best(); ok != is || !eq(got, want) {
			t.Fatalf("Best: %v, %v; want %v, %v", got, ok, want, is)
		}
	}
}

func wantBest(t *testing.T, v *Votes, want Vote) {
	t.Helper()
	if got, ok := v.Best(); !ok || !eq(got, want) {
		t.Errorf("Best: %v, %v; want %v", got, ok, want)
	}
}

func views() []int64 {
	return []int64{1, 2, 3, 4, 9, 1<<31 - 1, 1 << 31, 1 << 32, 1<<32 + 1, greatest - 1, greatest, greatest + 1, math.MaxInt64 - 1, math.MaxInt64}
}

func noViews() []int64 {
	return []int64{0, -1, -2, -9, -1 << 31, -1 << 32, -1<<32 + 5, -greatest, math.MinInt64 + 1, math.MinInt64}
}

func noCounts() []int {
	return []int{math.MinInt, -1 << 32, -5, -3, -1, 0, 1, 2, 8, 9, 10, 63, 64, 67, 256 + 5, 1<<32 + 5, math.MaxInt}
}

func TestP20_1New(t *testing.T) {
	for _, view := range views() {
		for n := 3; n <= 7; n++ {
			made(t, view, n)
		}
		for _, n := range noCounts() {
			if New(view, n) != nil {
				t.Errorf("New(%d, %d): not nil", view, n)
			}
		}
	}
	for _, view := range noViews() {
		for _, n := range append([]int{3, 4, 5, 6, 7}, noCounts()...) {
			if New(view, n) != nil {
				t.Errorf("New(%d, %d): not nil", view, n)
			}
		}
	}
}

func TestP20_1AddFrom(t *testing.T) {
	for n := 3; n <= 7; n++ {
		v, m := made(t, 9, n)
		for _, id := range []int{math.MinInt, -1 << 32, -7, -1, 0, n + 1, n + 2, 7 + 1, 9, 64, 65, 256 + 1, 1<<32 + 1, math.MaxInt} {
			wantAdd(t, v, m, as(id, of(1, 0, 0, 0)), false)
			wantAdd(t, v, m, as(id, of(1, 3, 4, 2)), false)
		}
		for id := 1; id <= n; id++ {
			wantAdd(t, v, m, of(id, 3, 4, 2), true)
			wantAdd(t, v, m, of(id, 3, 4, 2), false)
			wantAdd(t, v, m, as(n+id, of(1, 3, 4, 2)), false)
		}
	}
}

// as is the same vote of another one.
func as(id int, x Vote) Vote {
	x.From = id
	return x
}

func TestP20_1AddLast(t *testing.T) {
	for _, view := range views() {
		for _, last := range []int64{math.MinInt64, -greatest, -view, -2, -1, 0, 1, 2, view / 2, view - 2, view - 1, view, (view + 1) & math.MaxInt64, math.MaxInt64} {
			v, m := made(t, view, 3)
			wantAdd(t, v, m, of(2, last, 1, 1), last >= 0 && last < view)
		}
	}
}

// wrongEntries are those that may not be, each for one field of it.
func wrongEntries() []api.Entry {
	l := []api.Entry{{}, {From: 1, Boot: 5, Seq: 5, Stamp: 50, Data: strings.Repeat("x", 17)}}
	for _, n := range []int64{math.MinInt64, -1, 0, greatest + 1, math.MaxInt64} {
		l = append(l, api.Entry{From: int(n), Boot: 5, Seq: 5, Stamp: 50}, api.Entry{From: 1, Boot: n, Seq: 5, Stamp: 50}, api.Entry{From: 1, Boot: 5, Seq: n, Stamp: 50})
	}
	for _, n := range []int{math.MinInt, -1, 3, 1 << 32, math.MaxInt} {
		l = append(l, api.Entry{From: 1, Boot: 5, Seq: 5, Stamp: 50, Order: n}, api.Entry{From: 1, Boot: 5, Seq: 5, Stamp: 50, Level: n})
	}
	for _, n := range []int64{math.MinInt64, -1, greatest + 1, math.MaxInt64} {
		l = append(l, api.Entry{From: 1, Boot: 5, Seq: 5, Stamp: n})
	}
	return append(l, api.Entry{From: 8, Boot: 5, Seq: 5, Stamp: 50})
}

func TestP20_1AddLog(t *testing.T) {
	logs := [][]api.Entry{
		nil, {}, {e(1, 0)}, {e(greatest, greatest)}, {e(2, 5), e(1, 5)}, {e(1, 5), e(2, 6)},
		{{From: 7, Boot: greatest, Seq: greatest, Order: 2, Level: 2, Stamp: greatest, Data: strings.Repeat("x", 16)}},
		{e(1, 0), {From: 2, Boot: 1, Seq: 1}, {From: 1, Boot: 2, Seq: 1}},
		run(1, 59), run(1, 60),
	}
	for _, l := range logs {
		v, m := made(t, 9, 3)
		wantAdd(t, v, m, Vote{From: 2, Log: l, Commit: len(l)}, true)
		add(t, v, m, Vote{From: 3})
		wantBest(t, v, Vote{From: 2, Log: l, Commit: len(l)})
	}
	noLogs := [][]api.Entry{
		{e(1, 0), e(1, 0)}, {e(1, 0), e(2, 0), e(1, 7)}, {e(1, 1), e(2, 0)}, {e(1, 5), e(2, 7), e(3, 6)}, {e(1, 0), e(2, 1), e(3, 0), e(4, 2)},
		{e(1, 0), {From: 1, Boot: 1, Seq: 1, Order: 1, Level: 1, Stamp: 1, Data: "other"}},
		run(1, 61), run(1, 62), run(1, 1000), slices.Concat(run(1, 60), run(1, 1)), append(run(1, 60), api.Entry{}),
	}
	for _, x := range wrongEntries() {
		noLogs = append(noLogs, []api.Entry{x}, []api.Entry{e(1, 0), x}, []api.Entry{x, e(2, 70)}, []api.Entry{e(1, 0), x, e(2, 70)})
	}
	for _, l := range noLogs {
		v, m := made(t, 9, 3)
		for _, commit := range []int{0, 1, len(l) - 1, len(l)} {
			wantAdd(t, v, m, Vote{From: 2, Log: l, Commit: commit}, false)
		}
	}
}

func TestP20_1AddCommit(t *testing.T) {
	for _, size := range []int{0, 1, 2, 3, 59, 60} {
		for _, commit := range []int{math.MinInt, -1 << 32, -60, -2, -1, 0, 1, 2, 3, size - 1, size, size + 1, 59, 60, 61, 1 << 32, 1<<32 + 1, math.MaxInt} {
			v, m := made(t, 9, 3)
			wantAdd(t, v, m, of(2, 3, size, commit), commit >= 0 && commit <= size)
		}
	}
}

// What is wrong in more than one way is false, too, and takes nobody's place.
func TestP20_1AddOfWrongVotesIsNoVote(t *testing.T) {
	v, m := made(t, 9, 3)
	for _, x := range []Vote{
		of(2, 9, 4, 2), of(2, -1, 4, 2), of(2, 3, 61, 2), of(2, 3, 4, 5), of(2, 3, 4, -1), of(2, 9, 61, 62), as(0, of(1, 9, 61, -1)), {}, {From: 2, Log: make([]api.Entry, 1)},
	} {
		wantAdd(t, v, m, x, false)
	}
	wantAdd(t, v, m, of(2, 3, 4, 2), true)
}

func TestP20_1OnlyTheFirstVoteOfOne(t *testing.T) {
	v, m := made(t, 9, 3, of(2, 3, 4, 2), of(1, 0, 0, 0))
	for _, x := range []Vote{of(2, 3, 4, 2), of(2, 8, 60, 60), of(2, 0, 0, 0), of(1, 8, 0, 0), of(1, 0, 50, 3), of(1, 3, 5, 5)} {
		wantAdd(t, v, m, x, false)
		wantBest(t, v, of(2, 3, 4, 2))
	}
	wantAdd(t, v, m, of(3, 3, 5, 1), true)
	wantBest(t, v, of(3, 3, 5, 2))
}

// Each team of each count, its votes coming in rising and in falling order.
func TestP20_1TeamAndEnough(t *testing.T) {
	for n := 3; n <= 7; n++ {
		for bits := range 1 << n {
			var l []Vote
			for id := 1; id <= n; id++ {
				if bits>>(id-1)&1 == 1 {
					l = append(l, of(id, 1, 2, 1))
				}
			}
			made(t, 5, n, l...)
			slices.Reverse(l)
			v, _ := made(t, 5, n, l...)
			if int(v.Team()) != bits || v.Enough() != (len(l) > n/2) {
				t.Errorf("%b of %d: Team %b, Enough %v", bits, n, v.Team(), v.Enough())
			}
		}
	}
}

func TestP20_1EnoughAtEachCount(t *testing.T) {
	for n, most := range map[int]int{3: 2, 4: 3, 5: 3, 6: 4, 7: 4} {
		v, m := made(t, 5, n)
		for id := n; id >= 1; id-- {
			add(t, v, m, of(id, 4, id, id))
			if got := n - id + 1; v.Enough() != (got >= most) {
				t.Errorf("%d of %d: Enough %v", got, n, v.Enough())
			}
		}
	}
}

func TestP20_1Best(t *testing.T) {
	for _, c := range []struct {
		votes []Vote
		want  Vote
	}{
		{[]Vote{of(1, 0, 0, 0), of(2, 0, 0, 0)}, of(1, 0, 0, 0)},
		{[]Vote{of(3, 0, 0, 0), of(2, 0, 0, 0)}, of(2, 0, 0, 0)},
		{[]Vote{of(1, 2, 9, 0), of(2, 3, 1, 0)}, of(2, 3, 1, 0)},
		{[]Vote{of(1, 2, 1, 0), of(2, 2, 2, 0)}, of(2, 2, 2, 0)},
		{[]Vote{of(2, 2, 2, 0), of(1, 2, 2, 0), of(3, 2, 2, 0)}, of(1, 2, 2, 0)},
		// The greatest Commit of all, of one that is not the best, too.
		{[]Vote{of(1, 2, 9, 7), of(2, 3, 8, 1)}, of(2, 3, 8, 7)},
		{[]Vote{of(1, 2, 9, 8), of(2, 3, 8, 1)}, of(2, 3, 8, 8)},
		{[]Vote{of(1, 2, 9, 9), of(2, 3, 8, 1)}, of(2, 3, 8, 8)},
		{[]Vote{of(1, 2, 9, 9), of(2, 3, 0, 0)}, of(2, 3, 0, 0)},
		{[]Vote{of(1, 3, 4, 0), of(2, 3, 4, 3), of(3, 0, 60, 2)}, of(1, 3, 4, 3)},
		{[]Vote{of(1, 3, 4, 0), of(2, 3, 4, 2), of(3, 0, 60, 3)}, of(1, 3, 4, 3)},
		{[]Vote{of(1, 3, 4, 4), of(2, 3, 4, 2), of(3, 0, 60, 3)}, of(1, 3, 4, 4)},
	} {
		for _, l := range turned(c.votes) {
			v, _ := made(t, 4, 3, l...)
			wantBest(t, v, c.want)
		}
	}
}

// turned gives a list in each order.
func turned(l []Vote) [][]Vote {
	if len(l) < 2 {
		return [][]Vote{l}
	}
	var all [][]Vote
	for i := range l {
		rest := append(slices.Clone(l[:i]), l[i+1:]...)
		for _, r := range turned(rest) {
			all = append(all, append([]Vote{l[i]}, r...))
		}
	}
	return all
}

// small gives each small vote of id.
func small(id int) []Vote {
	var l []Vote
	for last := range int64(3) {
		for size := range 3 {
			for commit := range size + 1 {
				l = append(l, of(id, last, size, commit))
			}
		}
	}
	return l
}

func TestP20_1BestOfAllSmallVotes(t *testing.T) {
	for _, a := range small(1) {
		for _, b := range small(2) {
			for _, c := range small(3) {
				made(t, 3, 3, a, b, c)
				made(t, 3, 3, c, a, b)
				made(t, 3, 3, b, c, a)
			}
		}
	}
}

// The numbers of Last that a narrower number, or a difference, would take for others.
func TestP20_1BestOfGreatViews(t *testing.T) {
	lasts := []int64{0, 1, 1<<31 - 1, 1 << 31, 1<<32 - 1, 1 << 32, 1<<32 + 1, greatest, 1<<53 + 1, 1<<53 + 2, 1 << 62, math.MaxInt64 - 2, math.MaxInt64 - 1}
	for i, low := range lasts {
		for _, high := range lasts[i+1:] {
			v, m := made(t, math.MaxInt64, 3, of(1, low, 60, 60), of(2, high, 1, 0))
			wantBest(t, v, of(2, high, 1, 1))
			add(t, v, m, of(3, high, 2, 0))
			wantBest(t, v, of(3, high, 2, 2))
		}
	}
}

func TestP20_1BestOfNotEnough(t *testing.T) {
	v, m := made(t, 9, 5)
	for id := 5; id >= 4; id-- {
		add(t, v, m, of(id, 8, 60, 60))
		if b, ok := v.Best(); ok || !eq(b, Vote{}) {
			t.Errorf("Best of %d: %v, %v", 6-id, b, ok)
		}
	}
	add(t, v, m, of(1, 0, 0, 0))
	wantBest(t, v, of(4, 8, 60, 60))
}

func TestP20_1NilVotes(t *testing.T) {
	var none *Votes
	for _, v := range []*Votes{none, none, {}} {
		for _, x := range []Vote{{}, {From: 1}, of(1, 0, 0, 0), of(1, 0, 4, 2), of(3, 3, 60, 1), of(1, -1, 0, 0), as(-1, of(1, 0, 0, 0))} {
			if v.Add(x) {
				t.Errorf("Add(%v)", x)
			}
		}
		b, ok := v.Best()
		if v.View() != 0 || v.Team() != 0 || v.Enough() || ok || !eq(b, Vote{}) {
			t.Errorf("%d, %b, %v, %v, %v", v.View(), v.Team(), v.Enough(), b, ok)
		}
	}
}

func TestP0_1LongLogs(t *testing.T) {
	v, m := made(t, 9, 3)
	long := make([]api.Entry, 1<<18)
	for i := range long {
		long[i] = e(int64(i+1), 0)
	}
	for _, l := range [][]api.Entry{make([]api.Entry, 1<<18), slices.Repeat([]api.Entry{e(1, 1)}, 1<<18), long} {
		if v.Add(Vote{From: 1, Log: l}) || v.Add(Vote{From: 1, Log: l, Commit: len(l)}) {
			t.Errorf("Add of %d entries", len(l))
		}
	}
	wantVotes(t, v, m)
}

func TestP0_3ArgumentsStayAsTheyAre(t *testing.T) {
	for _, size := range []int{1, 5, 59, 60, 61} {
		room := append(run(1, size), run(7, 30)...)
		x := Vote{From: 2, Last: 3, Log: room[:size], Commit: 1}
		v, m := made(t, 9, 3, x, of(3, 1, 1, 1))
		if !slices.Equal(room, append(run(1, size), run(7, 30)...)) {
			t.Errorf("Add of %d entries: the list, or its spare room, is another one", size)
		}
		// Nor is it kept.
		clear(room)
		wantVotes(t, v, m)
		if b, ok := v.Best(); ok {
			clear(b.Log[:cap(b.Log)])
		}
		add(t, v, m, of(1, 8, 2, 0))
		if !slices.Equal(room, make([]api.Entry, len(room))) {
			t.Errorf("Add kept its list: it is %v", room)
		}
	}
}

func TestP0_3AnswersAreNewMemory(t *testing.T) {
	v, m := made(t, 9, 3, of(1, 3, 5, 2), of(2, 3, 6, 1))
	a, _ := v.Best()
	b, _ := v.Best()
	clear(a.Log[:cap(a.Log)])
	if !eq(b, of(2, 3, 6, 2)) {
		t.Errorf("two answers share memory: %v", b)
	}
	wantVotes(t, v, m)
	// What was told stays as it is.
	add(t, v, m, of(3, 4, 7, 7))
	if !eq(b, of(2, 3, 6, 2)) {
		t.Errorf("an answer turned into %v", b)
	}
}

func TestP0_4NilIsEmpty(t *testing.T) {
	for _, l := range [][]api.Entry{nil, {}, run(1, 5)[:0]} {
		v, m := made(t, 9, 3)
		wantAdd(t, v, m, Vote{From: 2, Log: l, Commit: 1}, false)
		wantAdd(t, v, m, Vote{From: 2, Log: l}, true)
		wantAdd(t, v, m, Vote{From: 3, Log: l}, true)
		wantBest(t, v, Vote{From: 2})
	}
}

func TestP0_5VotesAreTheirOwn(t *testing.T) {
	v, m := made(t, 9, 3, of(1, 3, 5, 2))
	w, k := made(t, 9, 3)
	copied, was := *v, model{m.view, m.n, slices.Clone(m.votes)}
	add(t, v, m, of(2, 8, 6, 1))
	wantVotes(t, w, k)
	wantVotes(t, &copied, &was)
	add(t, &copied, &was, of(3, 7, 7, 0))
	wantVotes(t, v, m)
	add(t, w, k, of(2, 1, 1, 1))
	wantVotes(t, v, m)
	if v.Team() != team.Of(1, 2) || copied.Team() != team.Of(1, 3) || w.Team() != team.Of(2) {
		t.Errorf("Teams: %b, %b, %b", v.Team(), copied.Team(), w.Team())
	}
}

// chosenLog is one that is a log, or one that almost is.
func chosenLog(next func(n int) int) []api.Entry {
	size := next(5)
	if next(8) == 0 {
		size = 58 + next(4)
	}
	l := run(1+next(7), size)
	if size > 0 && next(5) == 0 {
		switch at := next(size); next(4) {
		case 0:
			l[at] = wrongEntries()[next(len(wrongEntries()))]
		case 1:
			l[at] = l[next(size)]
		case 2:
			l[at].Stamp += int64(next(5)) - 2
		case 3:
			l = l[at:]
		}
	}
	return l
}

func chosenVote(view int64, n int, next func(n int) int) Vote {
	x := Vote{From: 1 + next(n), Last: int64(next(3)), Log: chosenLog(next)}
	if next(3) == 0 {
		x.Last = view - 1 - int64(next(2))
	}
	x.Commit = next(len(x.Log) + 1)
	switch next(12) {
	case 0:
		x.From = []int{0, -1, n + 1, 8, 1<<32 + 1, math.MinInt}[next(6)]
	case 1:
		x.Last = []int64{-1, view, math.MinInt64, math.MaxInt64}[next(4)]
	case 2:
		x.Commit = []int{-1, len(x.Log) + 1, math.MinInt, math.MaxInt}[next(4)]
	}
	return x
}

// script holds Votes against the model at each step, and tells how often each kind of answer came.
func script(t *testing.T, next func(n int) int, steps int) map[string]int {
	t.Helper()
	view := views()[next(len(views()))]
	n, came := 3+next(5), map[string]int{}
	v, m := made(t, view, n)
	for range steps {
		was := *m
		x := chosenVote(view, n, next)
		add(t, v, m, x)
		switch {
		case len(m.votes) == len(was.votes) && was.team()>>(max(1, min(x.From, n))-1)&1 == 1:
			came["no first one"]++
		case len(m.votes) == len(was.votes):
			came["no vote"]++
		default:
			came["vote"]++
		}
		before, _ := was.best()
		after, ok := m.best()
		switch {
		case !ok:
			came["not enough"]++
		case before.From != after.From:
			came["a new best"]++
		case before.Commit < after.Commit:
			came["a greater commit"]++
		}
		if t.Failed() {
			t.FailNow()
		}
	}
	return came
}

func TestP20Scripts(t *testing.T) {
	all := map[string]int{}
	for seed := range int64(3000) {
		for kind, n := range script(t, rand.New(rand.NewSource(seed)).Intn, 14) {
			all[kind] += n
		}
	}
	// The scripts are such that each kind of answer comes often.
	for _, kind := range []string{"vote", "no vote", "no first one", "not enough", "a new best", "a greater commit"} {
		if all[kind] < 100 {
			t.Errorf("%d answers: %s", all[kind], kind)
		}
	}
}

func FuzzVote(f *testing.F) {
	f.Add([]byte{})
	f.Add([]byte{4, 2, 1, 2, 3, 4, 5, 6, 7, 8, 9, 10, 11, 12, 13, 14, 15, 16})
	f.Add([]byte("the quick brown fox jumps over the lazy dog"))
	f.Fuzz(func(t *testing.T, b []byte) {
		next := func(n int) int {
			if len(b) == 0 {
				return 0
			}
			c := int(b[0])
			b = b[1:]
			return c % n
		}
		script(t, next, min(40, len(b)/5+1))
	})
}
