package quorum

import (
	"math"
	"math/rand"
	"testing"

	"curfew/team"
)

const most = 60 // entries of a log

// model is what was told, by the words of the chapter: each Ack that counts, and how many probes there were.
type model struct {
	n       int
	members team.Team
	me      int
	haves   map[int][]int
	answers map[int][]int64
	last    int64
}

func newModel(n int, members team.Team, me int) *model {
	return &model{n: n, members: members, me: me, haves: map[int][]int{}, answers: map[int][]int64{}}
}

// isMember reckons by the words whether id is one, of whatever number id is.
func (m *model) isMember(id int) bool {
	for i := range 7 {
		if id == i+1 {
			return int(m.members)>>i&1 == 1
		}
	}
	return false
}

func (m *model) ack(id, have int, probe int64) bool {
	if !m.isMember(id) || have < 0 || have > most {
		return false
	}
	m.haves[id] = append(m.haves[id], have)
	if probe >= 1 && probe <= m.last {
		m.answers[id] = append(m.answers[id], probe)
	}
	return true
}

func (m *model) next() int64 {
	m.last++
	m.answers[m.me] = append(m.answers[m.me], m.last)
	return m.last
}

func (m *model) have(id int) int {
	n := 0
	for _, have := range m.haves[id] {
		n = max(n, have)
	}
	return n
}

// reaches tells whether more than half of n have a number, of those of each, that is k or greater.
func reaches[T int | int64](m *model, of map[int][]T, k T) bool {
	count := 0
	for id := 1; id <= m.n; id++ {
		for _, x := range of[id] {
			if x >= k {
				count++
				break
			}
		}
	}
	return 2*count > m.n
}

func (m *model) commit() int {
	for k := most; k > 0; k-- {
		if reaches(m, m.haves, k) {
			return k
		}
	}
	return 0
}

func (m *model) probe() int64 {
	for p := m.last; p > 0; p-- {
		if reaches(m, m.answers, p) {
			return p
		}
	}
	return 0
}

// copied is one of its own.
func (m *model) copied() *model {
	c := newModel(m.n, m.members, m.me)
	for id := 1; id <= 7; id++ {
		c.haves[id] = append([]int{}, m.haves[id]...)
		c.answers[id] = append([]int64{}, m.answers[id]...)
	}
	c.last = m.last
	return c
}

// strangers are numbers that no process has: some of them would hit a process's bit if a number was narrower, or a shift wrapped.
func strangers() []int {
	l := []int{0, -1, -2, -7, -8, 8, 9, 10, 32, 33, 63, 64, 65, 71, 128, 129, 256, 257, 1<<16 + 1, 1 << 32, 1<<32 + 1, -1 << 32, -1<<32 + 1, -63, -64, -255}
	return append(l, math.MaxInt, math.MaxInt-1, math.MinInt, math.MinInt+1, math.MinInt+3)
}

// noHaves are those that no log has.
func noHaves() []int {
	return []int{math.MinInt, math.MinInt + 1, -1 << 32, -1<<32 + 5, -256 + 5, -60, -2, -1, most + 1, most + 2, 64, 127, 128, 255, 256, 256 + 5, 1<<16 + 5, 1 << 32, 1<<32 + 5, math.MaxInt - 1, math.MaxInt}
}

// noProbes are those that never were, however many there are.
func noProbes() []int64 {
	return []int64{math.MinInt64, math.MinInt64 + 1, math.MinInt64 + 2, -1 << 32, -1<<32 + 1, -256 + 1, -2, -1, 0, 1<<32 + 1, 1 << 40, 1<<40 + 1, 1 << 62, math.MaxInt64 - 1, math.MaxInt64}
}

// made gives a Quorum that nobody told anything.
func made(t *testing.T, n int, members team.Team, me int) (*Quorum, *model) {
	t.Helper()
	q, m := New(n, members, me), newModel(n, members, me)
	if q == nil {
		t.Fatalf("New(%d, %b, %d): nil", n, members, me)
	}
	wantQuorum(t, q, m)
	return q, m
}

// ack holds Ack, and what is told behind it, against the model.
func ack(t *testing.T, q *Quorum, m *model, id, have int, probe int64) {
	t.Helper()
	want := m.ack(id, have, probe)
	if got := q.Ack(id, have, probe); got != want {
		t.Fatalf("%b of %d, Last %d: Ack(%d, %d, %d): %v; want %v", m.members, m.n, m.last, id, have, probe, got, want)
	}
	wantQuorum(t, q, m)
}

// wantAck is ack where the answer is known.
func wantAck(t *testing.T, q *Quorum, m *model, id, have int, probe int64, want bool) {
	t.Helper()
	if m.copied().ack(id, have, probe) != want {
		t.Errorf("%b of %d: Ack(%d, %d, %d): %v; want %v", m.members, m.n, id, have, probe, !want, want)
	}
	ack(t, q, m, id, have, probe)
}

func next(t *testing.T, q *Quorum, m *model) {
	t.Helper()
	want := m.next()
	if got := q.Next(); got != want {
		t.Fatalf("Next: %d; want %d", got, want)
	}
	wantQuorum(t, q, m)
}

// wantQuorum holds all that a Quorum tells; telling it changes nothing.
func wantQuorum(t *testing.T, q *Quorum, m *model) {
	t.Helper()
	for range 2 {
		for id := -1; id <= 9; id++ {
			if got, want := q.Have(id), m.have(id); got != want {
				t.Fatalf("%b of %d: Have(%d): %d; want %d", m.members, m.n, id, got, want)
			}
		}
		if q.Commit() != m.commit() || q.Probe() != m.probe() || q.Last() != m.last {
			t.Fatalf("%b of %d, %v, %v: Commit %d, Probe %d, Last %d; want %d, %d, %d", m.members, m.n, m.haves, m.answers, q.Commit(), q.Probe(), q.Last(), m.commit(), m.probe(), m.last)
		}
	}
}

// listed gives the processes of the bits, rising.
func listed(bits int) []int {
	var l []int
	for i := range 7 {
		if bits>>i&1 == 1 {
			l = append(l, i+1)
		}
	}
	return l
}

// each calls f with each team that is most of each count, and with each one of it.
func each(f func(n int, members team.Team, me int)) {
	for n := 3; n <= 7; n++ {
		for bits := range 1 << n {
			l := listed(bits)
			for _, me := range l {
				if 2*len(l) > n {
					f(n, team.Team(bits), me)
				}
			}
		}
	}
}

func TestP21_1New(t *testing.T) {
	for n := 3; n <= 7; n++ {
		for bits := range 256 {
			l := listed(bits)
			is := bits < 1<<n && 2*len(l) > n
			for me := 1; me <= 7; me++ {
				if want := is && bits>>(me-1)&1 == 1; (New(n, team.Team(bits), me) != nil) != want {
					t.Errorf("New(%d, %b, %d): want one %v", n, bits, me, want)
				}
			}
			for _, me := range strangers() {
				if New(n, team.Team(bits), me) != nil {
					t.Errorf("New(%d, %b, %d): not nil", n, bits, me)
				}
			}
		}
	}
	each(func(n int, members team.Team, me int) { made(t, n, members, me) })
}

func TestP21_1NewOfWrongCounts(t *testing.T) {
	for _, n := range append(strangers(), 1, 2, 256+5, 1<<32+5) {
		for bits := range 256 {
			for me := 1; me <= 7; me++ {
				if New(n, team.Team(bits), me) != nil {
					t.Errorf("New(%d, %b, %d): not nil", n, bits, me)
				}
			}
		}
	}
}

// Bits that no process has make a team none of n.
func TestP21_1NewOfFurtherBits(t *testing.T) {
	for _, more := range []team.Team{128, 256, 1 << 20, 1 << 31, 1 << 32, 1 << 62, math.MinInt, -128} {
		each(func(n int, members team.Team, me int) {
			if New(n, members|more, me) != nil {
				t.Errorf("New(%d, %b, %d): not nil", n, members|more, me)
			}
		})
	}
}

func TestP21_1AckOfNoMember(t *testing.T) {
	each(func(n int, members team.Team, me int) {
		q, m := made(t, n, members, me)
		next(t, q, m)
		ids := strangers()
		for id := 1; id <= 7; id++ {
			if !m.isMember(id) {
				ids = append(ids, id)
			}
		}
		for _, id := range ids {
			wantAck(t, q, m, id, 5, 1, false)
			if q.Have(id) != 0 {
				t.Errorf("Have(%d): %d", id, q.Have(id))
			}
		}
	})
}

func TestP21_1AckOfWrongHave(t *testing.T) {
	for _, have := range noHaves() {
		for id := 1; id <= 3; id++ {
			q, m := made(t, 3, 7, 2)
			next(t, q, m)
			next(t, q, m)
			// Nothing is changed: a probe that would count is not answered, either.
			wantAck(t, q, m, id, have, 1, false)
			wantAck(t, q, m, id, 7, 1, true)
			wantAck(t, q, m, id, have, 2, false)
			if q.Have(id) != 7 {
				t.Errorf("Have behind Ack of %d: %d", have, q.Have(id))
			}
		}
	}
	q, m := made(t, 3, 7, 2)
	next(t, q, m)
	for _, have := range noHaves() {
		wantAck(t, q, m, 1, have, 1, false)
		wantAck(t, q, m, 3, have, 1, false)
		wantAck(t, q, m, 9, have, 1, false)
		if q.Probe() != 0 {
			t.Errorf("Ack of %d answered a probe", have)
		}
	}
}

// Each pair of what one had and what it has now.
func TestP21_1AckHave(t *testing.T) {
	for was := range most + 1 {
		for have := range most + 1 {
			q, m := made(t, 3, 7, 1)
			wantAck(t, q, m, 2, was, 0, true)
			wantAck(t, q, m, 2, have, 0, true)
			if q.Have(2) != max(was, have) {
				t.Errorf("Have behind %d and %d: %d", was, have, q.Have(2))
			}
		}
	}
}

// One's own Ack is as any other's.
func TestP21_1AckOfMe(t *testing.T) {
	each(func(n int, members team.Team, me int) {
		q, m := made(t, n, members, me)
		wantAck(t, q, m, me, 9, 0, true)
		wantAck(t, q, m, me, 4, 1, true)
		next(t, q, m)
		wantAck(t, q, m, me, 60, 1, true)
		wantAck(t, q, m, me, 61, 1, false)
		if q.Have(me) != 60 {
			t.Errorf("Have(%d): %d", me, q.Have(me))
		}
	})
}

// wantCommits tells in each order who has how much, and asks for Commit behind all.
func wantCommits(t *testing.T, n int, members team.Team, haves map[int]int, want int) {
	t.Helper()
	l := listed(int(members))
	for turn := range l {
		q, m := made(t, n, members, l[0])
		for i := range l {
			id := l[(i+turn)%len(l)]
			wantAck(t, q, m, id, haves[id], 0, true)
		}
		if q.Commit() != want {
			t.Errorf("%v, %b of %d: Commit %d; want %d", haves, members, n, q.Commit(), want)
		}
	}
}

func TestP21_1CommitKnown(t *testing.T) {
	for _, c := range []struct {
		n       int
		members team.Team
		haves   map[int]int
		want    int
	}{
		{3, 7, map[int]int{1: 60}, 0},
		{3, 7, map[int]int{1: 60, 2: 60}, 60},
		{3, 7, map[int]int{1: 3, 2: 1, 3: 2}, 2},
		{3, 5, map[int]int{1: 8, 3: 3}, 3},
		{3, 6, map[int]int{2: 3, 3: 8}, 3},
		// Most of n, not most of the members, and more than a half of four.
		{4, 15, map[int]int{1: 9, 2: 9}, 0},
		{4, 15, map[int]int{1: 9, 2: 8, 3: 7}, 7},
		{4, 15, map[int]int{1: 9, 2: 8, 3: 7, 4: 6}, 7},
		{4, 7, map[int]int{1: 9, 2: 9, 3: 1}, 1},
		{5, 7, map[int]int{1: 9, 2: 9}, 0},
		{5, 7, map[int]int{1: 9, 2: 9, 3: 4}, 4},
		{5, 31, map[int]int{1: 5, 2: 4, 3: 3, 4: 2, 5: 1}, 3},
		{6, 63, map[int]int{1: 9, 2: 9, 3: 9}, 0},
		{6, 63, map[int]int{1: 6, 2: 5, 3: 4, 4: 3, 5: 2, 6: 1}, 3},
		{6, 60, map[int]int{3: 60, 4: 60, 5: 60, 6: 59}, 59},
		{7, 120, map[int]int{4: 60, 5: 60, 6: 60, 7: 1}, 1},
		{7, 127, map[int]int{1: 7, 2: 6, 3: 5, 4: 4, 5: 3, 6: 2, 7: 1}, 4},
		{7, 127, map[int]int{1: 60, 2: 60, 3: 60}, 0},
	} {
		wantCommits(t, c.n, c.members, c.haves, c.want)
	}
}

// All small haves and answers of each team of three and of four.
func TestP21_1CommitOfAllSmallHaves(t *testing.T) {
	for n := 3; n <= 4; n++ {
		for bits := range 1 << n {
			l := listed(bits)
			if 2*len(l) <= n {
				continue
			}
			for k := range 1 << (2 * len(l)) {
				q, m := made(t, n, team.Team(bits), l[0])
				for range 3 {
					next(t, q, m)
				}
				for i, id := range l {
					x := k >> (2 * i) & 3
					ack(t, q, m, id, x, int64(3-x))
				}
			}
		}
	}
}

func TestP21_1CommitNeverFalls(t *testing.T) {
	q, m := made(t, 5, 31, 3)
	was := 0
	for k := range most + 1 {
		for id := 1; id <= 5; id++ {
			wantAck(t, q, m, id, k*id%61, 0, true)
			wantAck(t, q, m, id, 0, 0, true)
			if q.Commit() < was {
				t.Errorf("Commit %d behind %d", q.Commit(), was)
			}
			was = q.Commit()
		}
	}
}

func TestP21_1Next(t *testing.T) {
	each(func(n int, members team.Team, me int) {
		q, m := made(t, n, members, me)
		for k := range int64(4) {
			if q.Last() != k {
				t.Errorf("Last: %d; want %d", q.Last(), k)
			}
			next(t, q, m)
		}
		if q.Probe() != 0 || q.Commit() != 0 || q.Have(me) != 0 {
			t.Errorf("behind Next: Probe %d, Commit %d, Have %d", q.Probe(), q.Commit(), q.Have(me))
		}
	})
}

func TestP21_1ManyProbes(t *testing.T) {
	q := New(3, 7, 2)
	for k := range int64(1 << 17) {
		if got := q.Next(); got != k+1 || q.Last() != k+1 || q.Probe() != k {
			t.Fatalf("Next: %d, Last %d, Probe %d; want %d", got, q.Last(), q.Probe(), k+1)
		}
		if !q.Ack(3, 0, k+2) || q.Probe() != k || !q.Ack(3, 0, k+1) || q.Probe() != k+1 {
			t.Fatalf("Probe behind the answer to %d: %d", k+1, q.Probe())
		}
	}
}

// Me has answered at once: with the others that most of n take, the probe is reached.
func TestP21_1MeAnswersAtOnce(t *testing.T) {
	each(func(n int, members team.Team, me int) {
		q, m := made(t, n, members, me)
		next(t, q, m)
		answered := 1
		for _, id := range listed(int(members)) {
			if id == me {
				continue
			}
			wantAck(t, q, m, id, 0, 1, true)
			answered++
			want := int64(0)
			if 2*answered > n {
				want = 1
			}
			if q.Probe() != want {
				t.Errorf("%d of %d answered: Probe %d", answered, n, q.Probe())
			}
		}
	})
}

func TestP21_1AckProbe(t *testing.T) {
	q, m := made(t, 3, 7, 1)
	wantAck(t, q, m, 2, 0, 1, true)
	wantAck(t, q, m, 3, 0, math.MaxInt64, true)
	if q.Probe() != 0 {
		t.Errorf("Probe, where there is none: %d", q.Probe())
	}
	for range 5 {
		next(t, q, m)
	}
	for _, c := range []struct {
		id          int
		probe, want int64
	}{{2, 6, 0}, {2, 0, 0}, {2, 2, 2}, {2, 1, 2}, {2, 6, 2}, {3, 4, 4}, {3, 3, 4}, {2, 4, 4}, {2, 5, 5}, {3, 5, 5}, {3, 7, 5}} {
		wantAck(t, q, m, c.id, 0, c.probe, true)
		if q.Probe() != c.want {
			t.Errorf("behind Ack of %d, probe %d: Probe %d; want %d", c.id, c.probe, q.Probe(), c.want)
		}
	}
	// An answer to what was not asked yet isn't one when it is asked.
	next(t, q, m)
	next(t, q, m)
	if q.Probe() != 5 {
		t.Errorf("Probe: %d", q.Probe())
	}
}

// A later answer counts for each probe ahead of it.
func TestP21_1ProbeOrALaterOne(t *testing.T) {
	q, m := made(t, 5, 31, 5)
	for range 9 {
		next(t, q, m)
	}
	wantAck(t, q, m, 1, 0, 7, true)
	wantAck(t, q, m, 2, 0, 3, true)
	if q.Probe() != 3 {
		t.Errorf("9, 7 and 3 of five: Probe %d", q.Probe())
	}
	wantAck(t, q, m, 3, 0, 5, true)
	if q.Probe() != 5 {
		t.Errorf("9, 7, 5 and 3 of five: Probe %d", q.Probe())
	}
}

// What is wrong of a probe is passed over; the log's length counts all the same.
func TestP21_1AckOfWrongProbes(t *testing.T) {
	for _, probe := range noProbes() {
		q, m := made(t, 3, 7, 1)
		for range 3 {
			next(t, q, m)
		}
		wantAck(t, q, m, 2, 5, probe, true)
		wantAck(t, q, m, 1, 4, probe, true)
		if q.Have(2) != 5 || q.Commit() != 4 || q.Probe() != 0 || q.Last() != 3 {
			t.Errorf("behind probe %d: Have %d, Commit %d, Probe %d, Last %d", probe, q.Have(2), q.Commit(), q.Probe(), q.Last())
		}
		wantAck(t, q, m, 3, 0, 2, true)
		wantAck(t, q, m, 3, 6, probe, true)
		if q.Have(3) != 6 || q.Probe() != 2 {
			t.Errorf("behind probe %d: Have %d, Probe %d", probe, q.Have(3), q.Probe())
		}
	}
}

func TestP21_1HaveOfStrangers(t *testing.T) {
	each(func(n int, members team.Team, me int) {
		q, m := made(t, n, members, me)
		for _, id := range listed(int(members)) {
			wantAck(t, q, m, id, 10+id, 0, true)
			if q.Have(id) != 10+id {
				t.Errorf("Have(%d): %d", id, q.Have(id))
			}
		}
		for _, id := range strangers() {
			if q.Have(id) != 0 {
				t.Errorf("Have(%d): %d", id, q.Have(id))
			}
		}
	})
}

func TestP21_1NilQuorum(t *testing.T) {
	var q *Quorum
	for range 3 {
		if q.Next() != 0 || q.Last() != 0 || q.Probe() != 0 || q.Commit() != 0 {
			t.Errorf("nil: %d, %d, %d, %d", q.Next(), q.Last(), q.Probe(), q.Commit())
		}
		for _, id := range append(strangers(), 1, 2, 3, 7) {
			if q.Ack(id, 5, 0) || q.Ack(id, 0, 1) || q.Ack(id, -1, -1) || q.Ack(id, 61, math.MaxInt64) || q.Have(id) != 0 {
				t.Errorf("nil, %d", id)
			}
		}
	}
}

// A zero one is of nobody: nobody has anything, and no probe is answered.
func TestP0_1ZeroQuorum(t *testing.T) {
	var q Quorum
	for range 3 {
		q.Next()
		for _, id := range append(strangers(), 1, 2, 3, 7) {
			if q.Ack(id, 5, 1) || q.Have(id) != 0 || q.Commit() != 0 || q.Probe() != 0 {
				t.Errorf("zero, %d", id)
			}
		}
	}
}

func TestP0_5QuorumsAreTheirOwn(t *testing.T) {
	q, m := made(t, 3, 7, 1)
	r, k := made(t, 3, 7, 1)
	next(t, q, m)
	wantAck(t, q, m, 2, 9, 1, true)
	copied, was := *q, m.copied()
	next(t, q, m)
	wantAck(t, q, m, 1, 8, 2, true)
	wantAck(t, q, m, 2, 10, 2, true)
	wantQuorum(t, r, k)
	wantQuorum(t, &copied, was)
	wantAck(t, &copied, was, 3, 60, 1, true)
	wantAck(t, r, k, 3, 1, 0, true)
	wantQuorum(t, q, m)
	if q.Commit() != 8 || copied.Commit() != 9 || r.Commit() != 0 {
		t.Errorf("Commits: %d, %d, %d", q.Commit(), copied.Commit(), r.Commit())
	}
}

// chosenTeam gives a team that is most of n, and one of it.
func chosenTeam(n int, pick func(n int) int) (team.Team, int) {
	bits := pick(1 << n)
	for id := 1; 2*len(listed(bits)) <= n; id++ {
		bits |= 1 << (id - 1)
	}
	l := listed(bits)
	return team.Team(bits), l[pick(len(l))]
}

// chosenAck gives what is told: most of it may be.
func chosenAck(n int, last int64, pick func(n int) int) (int, int, int64) {
	id, have, probe := 1+pick(n), pick(12), last-int64(pick(5))
	switch pick(8) {
	case 0:
		id = strangers()[pick(len(strangers()))]
	case 1:
		have = noHaves()[pick(len(noHaves()))]
	case 2:
		probe = noProbes()[pick(len(noProbes()))]
	case 3:
		probe = last + 1 + int64(pick(2))
	case 4:
		have = most - pick(3)
	}
	return id, have, probe
}

// script holds a Quorum against the model at each step, and tells how often each kind of answer came.
func script(t *testing.T, pick func(n int) int, steps int) map[string]int {
	t.Helper()
	n, came := 3+pick(5), map[string]int{}
	members, me := chosenTeam(n, pick)
	q, m := made(t, n, members, me)
	for range steps {
		commit, probe := m.commit(), m.probe()
		if pick(5) == 0 {
			next(t, q, m)
			came["a probe"]++
			continue
		}
		id, have, answer := chosenAck(n, m.last, pick)
		if m.copied().ack(id, have, answer) {
			came["heard"]++
		} else {
			came["not heard"]++
		}
		ack(t, q, m, id, have, answer)
		if m.commit() > commit {
			came["a greater commit"]++
		}
		if m.probe() > probe {
			came["a later probe"]++
		}
	}
	return came
}

func TestP21Scripts(t *testing.T) {
	all := map[string]int{}
	for seed := range int64(3000) {
		for kind, n := range script(t, rand.New(rand.NewSource(seed)).Intn, 40) {
			all[kind] += n
		}
	}
	// The scripts are such that each kind of answer comes often.
	for _, kind := range []string{"a probe", "heard", "not heard", "a greater commit", "a later probe"} {
		if all[kind] < 1000 {
			t.Errorf("%d answers: %s", all[kind], kind)
		}
	}
}

func FuzzQuorum(f *testing.F) {
	f.Add([]byte{})
	f.Add([]byte{4, 31, 2, 0, 1, 2, 3, 4, 5, 6, 7, 8, 9, 10, 11, 12, 13, 14, 15, 16})
	f.Add([]byte("the quick brown fox jumps over the lazy dog"))
	f.Fuzz(func(t *testing.T, b []byte) {
		pick := func(n int) int {
			if len(b) == 0 {
				return 0
			}
			c := int(b[0])
			b = b[1:]
			return c % n
		}
		script(t, pick, min(60, len(b)/4+1))
	})
}
