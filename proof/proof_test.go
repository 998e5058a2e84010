package proof

import (
	"math"
	"math/big"
	"math/rand"
	"testing"
)

const (
	ticks    = 12 // that a proof is good
	answered = 64 // of the questions, the last ones
)

// question is one that was asked.
type question struct {
	num, clock int64
	dropped    bool
}

// model is what was told, by the words of the chapter: all questions, and which one of them counts (-1: none), with what commit.
type model struct {
	base   int64
	asked  []question
	counts int
	commit int
}

func newModel(base int64) *model {
	return &model{base: base, counts: -1}
}

func (m *model) ask(clock int64) int64 {
	num := new(big.Int).Add(big.NewInt(m.base), big.NewInt(int64(len(m.asked)+1)))
	if !num.IsInt64() {
		return 0
	}
	m.asked = append(m.asked, question{num: num.Int64(), clock: clock})
	return num.Int64()
}

// find gives which of the questions one is, or -1.
func (m *model) find(num int64) int {
	for i := len(m.asked) - 1; i >= 0; i-- {
		if m.asked[i].num == num {
			return i
		}
	}
	return -1
}

func (m *model) would(num int64) bool {
	i := m.find(num)
	return i >= 0 && i >= len(m.asked)-answered && !m.asked[i].dropped && i > m.counts
}

func (m *model) get(num int64, commit int) bool {
	if !m.would(num) {
		return false
	}
	m.counts, m.commit = m.find(num), commit
	return true
}

// age tells how far the clock is ahead of the one that counts.
func (m *model) age(clock int64) *big.Int {
	return new(big.Int).Sub(big.NewInt(clock), big.NewInt(m.asked[m.counts].clock))
}

func (m *model) good(clock int64, commit int) bool {
	if m.counts < 0 || commit < m.commit {
		return false
	}
	age := m.age(clock)
	return age.Sign() >= 0 && age.Cmp(big.NewInt(ticks)) < 0
}

func (m *model) left(clock int64, commit int) int64 {
	n := int64(0)
	if !m.good(clock, commit) {
		return n
	}
	for age := m.age(clock); age.Cmp(big.NewInt(ticks)) < 0; age.Add(age, big.NewInt(1)) {
		n++
	}
	return n
}

func (m *model) drop() {
	for i := range m.asked {
		m.asked[i].dropped = true
	}
	m.counts = -1
}

// copied is one of its own.
func (m *model) copied() *model {
	c := *m
	c.asked = append([]question{}, m.asked...)
	return &c
}

func (m *model) last() int64 {
	return m.base + int64(len(m.asked))
}

// farTimes are those at both ends of what a clock shows, and others that are far from one another.
func farTimes() []int64 {
	l := []int64{math.MinInt64, math.MinInt64 + 1, math.MinInt64 + 11, math.MinInt64 + 12, -1 << 62, -1 << 40, -1 << 32, -12, -1, 0, 1, 11, 12}
	return append(l, 1<<32, 1<<40-1, 1<<40, 1<<40+1, 1<<62, math.MaxInt64-12, math.MaxInt64-11, math.MaxInt64-1, math.MaxInt64)
}

func farCommits() []int {
	return []int{math.MinInt, math.MinInt + 1, -1 << 32, -1, 0, 1, 59, 60, 61, 1 << 32, math.MaxInt - 1, math.MaxInt}
}

// near gives what is about x, as far as there is such.
func near(x int64, below, above int64) []int64 {
	var l []int64
	for k := -below; k <= above; k++ {
		if (k < 0) == (x+k < x) {
			l = append(l, x+k)
		}
	}
	return l
}

// times are those to ask for, about the one that counts and far from it.
func (m *model) times() []int64 {
	l := []int64{math.MinInt64, 0, math.MaxInt64}
	if m.counts < 0 {
		return l
	}
	clock := m.asked[m.counts].clock
	l = append(l, near(clock, 1, 2)...)
	if clock < math.MaxInt64-20 {
		l = append(l, clock+11, clock+12, clock+13)
	}
	return l
}

func (m *model) commits() []int {
	l := []int{math.MinInt, math.MaxInt}
	for _, c := range near(int64(m.commit), 1, 1) {
		l = append(l, int(c))
	}
	return l
}

// made gives a Proof to which nothing was told.
func made(t *testing.T, base int64) (*Proof, *model) {
	t.Helper()
	p, m := New(base), newModel(base)
	if p == nil {
		t.Fatalf("New(%d): nil", base)
	}
	wantProof(t, p, m)
	return p, m
}

// wantProof holds all that a Proof tells; telling it changes nothing.
func wantProof(t *testing.T, p *Proof, m *model) {
	t.Helper()
	for _, clock := range m.times() {
		for _, commit := range m.commits() {
			wantLeft(t, p, clock, commit, m.left(clock, commit))
			wantLeft(t, p, clock, commit, m.left(clock, commit))
		}
	}
}

// wantLeft holds Left, and Good, which is as long as ticks are left.
func wantLeft(t *testing.T, p *Proof, clock int64, commit int, want int64) {
	t.Helper()
	if got := p.Left(clock, commit); got != want {
		t.Fatalf("Left(%d, %d): %d; want %d", clock, commit, got, want)
	}
	if got := p.Good(clock, commit); got != (want > 0) {
		t.Fatalf("Good(%d, %d): %v; want %v", clock, commit, got, want > 0)
	}
}

func ask(t *testing.T, p *Proof, m *model, clock int64) int64 {
	t.Helper()
	want := m.ask(clock)
	if got := p.Ask(clock); got != want {
		t.Fatalf("base %d: Ask(%d), the %d-th: %d; want %d", m.base, clock, len(m.asked), got, want)
	}
	wantProof(t, p, m)
	return want
}

func wantAsk(t *testing.T, p *Proof, m *model, clock, want int64) {
	t.Helper()
	if got := ask(t, p, m, clock); got != want {
		t.Errorf("base %d: Ask(%d): %d; want %d", m.base, clock, got, want)
	}
}

// get holds Get, and what is told behind it, against the model.
func get(t *testing.T, p *Proof, m *model, num int64, commit int) bool {
	t.Helper()
	want := m.get(num, commit)
	if got := p.Get(num, commit); got != want {
		t.Fatalf("base %d, %d asked, the %d-th counts: Get(%d, %d): %v; want %v", m.base, len(m.asked), m.counts, num, commit, got, want)
	}
	wantProof(t, p, m)
	return want
}

func wantGet(t *testing.T, p *Proof, m *model, num int64, commit int, want bool) {
	t.Helper()
	if got := get(t, p, m, num, commit); got != want {
		t.Errorf("base %d: Get(%d, %d): %v; want %v", m.base, num, commit, got, want)
	}
}

func drop(t *testing.T, p *Proof, m *model) {
	t.Helper()
	m.drop()
	p.Drop()
	wantProof(t, p, m)
}

// wantGets holds Get of each number about those that were asked, and of far ones, each on a copy.
func wantGets(t *testing.T, p *Proof, m *model) {
	t.Helper()
	nums := append(near(m.base, 70, 3), near(m.last(), 70, 70)...)
	for _, num := range append(nums, farTimes()...) {
		copied := *p
		if got, want := copied.Get(num, 7), m.would(num); got != want {
			t.Fatalf("base %d, %d asked, the %d-th counts: Get(%d, 7): %v; want %v", m.base, len(m.asked), m.counts, num, got, want)
		}
		if !m.would(num) && copied != *p {
			t.Fatalf("base %d: Get(%d, 7) changed something", m.base, num)
		}
	}
	wantProof(t, p, m)
}

// bases are those that a Proof may begin with, with room for questions.
func bases() []int64 {
	return []int64{0, 1, -1, 100, -100, -64, -3, 63, 64, 1 << 20, 1 << 32, 1<<32 - 5, -1 << 32, 1 << 40, 5 << 40, -1 << 40, 1 << 62, math.MinInt64, math.MinInt64 + 1, math.MinInt64 + 60, math.MaxInt64 - 200}
}

func TestP22_1New(t *testing.T) {
	for _, base := range append(bases(), math.MaxInt64-1, math.MaxInt64) {
		p, m := made(t, base)
		wantGets(t, p, m)
	}
}

func TestP22_1Ask(t *testing.T) {
	for _, base := range bases() {
		p, m := made(t, base)
		for k := range int64(150) {
			wantAsk(t, p, m, 1000+k, base+1+k)
			if k < 3 || k > 60 && k < 70 || k > 126 && k < 132 {
				wantGets(t, p, m)
			}
		}
	}
}

// A question alone is no proof.
func TestP22_1AskAloneIsNoProof(t *testing.T) {
	p, m := made(t, 100)
	wantAsk(t, p, m, 10, 101)
	wantAsk(t, p, m, 12, 102)
	wantLeft(t, p, 10, 60, 0)
	wantLeft(t, p, 12, 60, 0)
	wantGet(t, p, m, 101, 3, true)
	wantAsk(t, p, m, 13, 103)
	// The one that counts is still that of 10.
	wantLeft(t, p, 13, 3, 9)
}

// Whatever time a question is asked at, it is one, and what was asked ahead of it stays.
func TestP22_1AskAtAnyTime(t *testing.T) {
	for _, first := range farTimes() {
		for _, second := range farTimes() {
			p, m := made(t, 7)
			wantAsk(t, p, m, first, 8)
			wantAsk(t, p, m, second, 9)
			wantGet(t, p, m, 8, 5, true)
			wantLeft(t, p, first, 5, ticks)
			wantGet(t, p, m, 9, 4, true)
			wantLeft(t, p, second, 4, ticks)
			wantGet(t, p, m, 8, 6, false)
		}
	}
}

// There is no number beyond the last one, so no question.
func TestP22_1AskAtTheLastNumber(t *testing.T) {
	for room := range int64(4) {
		p, m := made(t, math.MaxInt64-room)
		for k := range room {
			wantAsk(t, p, m, 20+k, math.MaxInt64-room+1+k)
		}
		wantGets(t, p, m)
		for range 3 {
			wantAsk(t, p, m, 30, 0)
			wantGets(t, p, m)
		}
		if room > 0 {
			wantGet(t, p, m, math.MaxInt64, 1, true)
			wantLeft(t, p, 20+room-1, 1, ticks)
		}
		wantAsk(t, p, m, 40, 0)
		wantGets(t, p, m)
		drop(t, p, m)
		wantAsk(t, p, m, 40, 0)
		wantGets(t, p, m)
	}
}

func TestP22_1Get(t *testing.T) {
	p, m := made(t, 100)
	for k := range int64(6) {
		wantAsk(t, p, m, 10+k, 101+k)
	}
	wantGet(t, p, m, 100, 3, false)
	wantGet(t, p, m, 107, 3, false)
	wantGet(t, p, m, 103, 3, true)
	wantLeft(t, p, 12, 3, 12)
	wantGets(t, p, m)
	// Neither the same one nor an earlier one, even with a lesser commit.
	wantGet(t, p, m, 103, 2, false)
	wantGet(t, p, m, 103, 3, false)
	wantGet(t, p, m, 102, 2, false)
	wantGet(t, p, m, 101, 2, false)
	wantLeft(t, p, 12, 3, 12)
	wantLeft(t, p, 12, 2, 0)
	wantGet(t, p, m, 104, 9, true)
	wantLeft(t, p, 13, 9, 12)
	wantLeft(t, p, 13, 8, 0)
	wantGet(t, p, m, 106, 1, true)
	wantLeft(t, p, 15, 1, 12)
	wantLeft(t, p, 14, 1, 0)
	wantGet(t, p, m, 105, 1, false)
	wantGet(t, p, m, 107, 1, false)
	wantGets(t, p, m)
}

// Which one is later is told by the numbers: the times may be the same, or go back.
func TestP22_1LaterIsByNumber(t *testing.T) {
	p, m := made(t, 0)
	for _, clock := range []int64{50, 50, 40, 60, 40} {
		ask(t, p, m, clock)
	}
	wantGet(t, p, m, 1, 0, true)
	wantGet(t, p, m, 2, 1, true)
	wantLeft(t, p, 50, 0, 0)
	wantLeft(t, p, 50, 1, 12)
	wantGet(t, p, m, 3, 2, true)
	wantLeft(t, p, 50, 2, 2)
	wantGet(t, p, m, 2, 3, false)
	wantGet(t, p, m, 5, 3, true)
	wantGet(t, p, m, 4, 3, false)
	wantLeft(t, p, 40, 3, 12)
}

// Each two of some questions, one behind the other.
func TestP22_1GetOfEachTwo(t *testing.T) {
	for first := range int64(8) {
		for second := range int64(8) {
			p, m := made(t, -3)
			for k := range int64(6) {
				ask(t, p, m, 100+3*k)
			}
			get(t, p, m, -3+first, 5)
			get(t, p, m, -3+second, 4)
			wantGets(t, p, m)
		}
	}
}

func TestP22_1AnyCommit(t *testing.T) {
	for _, commit := range farCommits() {
		p, m := made(t, 0)
		ask(t, p, m, 5)
		wantGet(t, p, m, 1, commit, true)
		wantLeft(t, p, 5, commit, 12)
		wantLeft(t, p, 5, math.MaxInt, 12)
		if commit > math.MinInt {
			wantLeft(t, p, 5, commit-1, 0)
		}
		if commit < math.MaxInt {
			wantLeft(t, p, 5, commit+1, 12)
		}
	}
}

func TestP22_1Left(t *testing.T) {
	for _, asked := range farTimes() {
		p, m := made(t, 0)
		ask(t, p, m, asked)
		wantGet(t, p, m, 1, 3, true)
		for _, clock := range near(asked, 20, 20) {
			want := int64(0)
			if clock >= asked && clock-asked < 12 {
				want = 12 - (clock - asked)
			}
			wantLeft(t, p, clock, 3, want)
			wantLeft(t, p, clock, 4, want)
			wantLeft(t, p, clock, 2, 0)
		}
		for _, clock := range farTimes() {
			wantLeft(t, p, clock, 3, m.left(clock, 3))
		}
	}
}

// As long as Left says, and no longer, it is good.
func TestP22_1LeftIsHowLongItIsGood(t *testing.T) {
	p, m := made(t, 0)
	ask(t, p, m, 1000)
	wantGet(t, p, m, 1, 3, true)
	for clock := int64(980); clock < 1020; clock++ {
		n := int64(0)
		for p.Good(clock+n, 3) {
			n++
		}
		if p.Left(clock, 3) != n {
			t.Errorf("Left(%d, 3): %d; good for %d", clock, p.Left(clock, 3), n)
		}
	}
}

// A question is forgotten where 64 later ones were asked, but what counts stays.
func TestP22_1LastSixtyFour(t *testing.T) {
	for _, base := range bases() {
		for _, n := range []int64{1, 63, 64, 65, 66, 127, 128, 129, 192} {
			p, m := made(t, base)
			for k := range n {
				m.ask(500 + k)
				p.Ask(500 + k)
			}
			first := max(1, n-63)
			wantGet(t, p, m, base+first-1, 2, false)
			wantGet(t, p, m, base+first, 2, true)
			wantLeft(t, p, 500+first-1, 2, 12)
			wantGet(t, p, m, base+n, 2, n > 1)
			wantLeft(t, p, 500+n-1, 2, 12)
			wantGet(t, p, m, base+n+1, 2, false)
		}
	}
}

func TestP22_1WhatCountsOutlastsItsQuestion(t *testing.T) {
	p, m := made(t, 0)
	ask(t, p, m, 5)
	ask(t, p, m, 6)
	wantGet(t, p, m, 2, 4, true)
	for num := int64(3); num <= 200; num++ {
		wantAsk(t, p, m, 100+num, num)
		wantLeft(t, p, 6, 4, 12)
	}
	wantGet(t, p, m, 136, 9, false)
	wantLeft(t, p, 6, 4, 12)
	wantGet(t, p, m, 137, 9, true)
	wantLeft(t, p, 237, 9, 12)
}

func TestP22_1Drop(t *testing.T) {
	for _, base := range bases() {
		p, m := made(t, base)
		drop(t, p, m)
		wantAsk(t, p, m, 1, base+1)
		wantAsk(t, p, m, 2, base+2)
		wantAsk(t, p, m, 3, base+3)
		wantGet(t, p, m, base+2, 5, true)
		drop(t, p, m)
		wantLeft(t, p, 2, 5, 0)
		wantLeft(t, p, 2, math.MaxInt, 0)
		wantGets(t, p, m)
		for k := range int64(4) {
			wantGet(t, p, m, base+k, 5, false)
		}
		// The numbers go on.
		wantAsk(t, p, m, 2, base+4)
		wantGet(t, p, m, base+3, 5, false)
		wantGets(t, p, m)
		wantGet(t, p, m, base+4, 1, true)
		wantLeft(t, p, 2, 1, 12)
		drop(t, p, m)
		drop(t, p, m)
		wantAsk(t, p, m, 9, base+5)
		wantGets(t, p, m)
	}
}

// Of 64 questions those that were asked ahead of Drop are not answered, either.
func TestP22_1DropWithinSixtyFour(t *testing.T) {
	for _, ahead := range []int64{1, 30, 63, 64, 65, 100} {
		for _, behind := range []int64{1, 33, 34, 63, 64, 65} {
			p, m := made(t, 10)
			for k := range ahead {
				m.ask(k)
				p.Ask(k)
			}
			drop(t, p, m)
			for k := range behind {
				m.ask(200 + k)
				p.Ask(200 + k)
			}
			wantGets(t, p, m)
			wantGet(t, p, m, 10+ahead, 0, false)
			wantGet(t, p, m, 10+ahead+behind, 0, true)
			wantGets(t, p, m)
		}
	}
}

func TestP22_1Nil(t *testing.T) {
	var p *Proof
	for range 2 {
		for _, x := range farTimes() {
			for _, commit := range farCommits() {
				if p.Ask(x) != 0 || p.Get(x, commit) || p.Good(x, commit) || p.Left(x, commit) != 0 {
					t.Errorf("a nil Proof at %d, %d", x, commit)
				}
			}
		}
		p.Drop()
	}
}

// The chapter does not speak of a zero Proof: it is as one of base 0.
func TestP0_1Zero(t *testing.T) {
	p, m := new(Proof), newModel(0)
	wantProof(t, p, m)
	wantGets(t, p, m)
	drop(t, p, m)
	wantAsk(t, p, m, 4, 1)
	wantAsk(t, p, m, 5, 2)
	wantGet(t, p, m, 1, 3, true)
	wantGets(t, p, m)
}

func TestP0_5ProofsAreTheirOwn(t *testing.T) {
	p, m := made(t, 5)
	q, k := made(t, 5)
	ask(t, p, m, 10)
	ask(t, p, m, 11)
	wantGet(t, p, m, 6, 3, true)
	copied, was := *p, m.copied()
	ask(t, p, m, 12)
	wantGet(t, p, m, 8, 4, true)
	wantProof(t, q, k)
	wantProof(t, &copied, was)
	wantAsk(t, &copied, was, 90, 8)
	wantGet(t, &copied, was, 7, 2, true)
	wantGet(t, &copied, was, 8, 1, true)
	drop(t, &copied, was)
	wantAsk(t, q, k, 30, 6)
	wantProof(t, p, m)
	wantGets(t, q, k)
}

// chosenTime is one about the last one, or a far one.
func chosenTime(now int64, pick func(n int) int) int64 {
	if pick(12) == 0 {
		return farTimes()[pick(len(farTimes()))]
	}
	l := near(now, 13, 13)
	return l[pick(len(l))]
}

// chosenNum is one about the last ones, about the first of the last 64, or a far one.
func (m *model) chosenNum(pick func(n int) int) int64 {
	l := near(m.last(), 4, 1)
	switch pick(8) {
	case 0:
		l = farTimes()
	case 1:
		l = near(m.last(), 66, 66)
	case 2:
		l = near(m.base, 2, 3)
	}
	return l[pick(len(l))]
}

// script holds a Proof against the model at each step, and tells how often each kind of answer came.
func script(t *testing.T, pick func(n int) int, steps int) map[string]int {
	t.Helper()
	came, now := map[string]int{}, int64(pick(100))
	p, m := made(t, bases()[pick(len(bases()))])
	for range steps {
		switch pick(8) {
		case 0, 1, 2:
			now = chosenTime(now, pick)
			ask(t, p, m, now)
		case 3:
			for range pick(66) {
				m.ask(now)
				p.Ask(now)
			}
		case 4:
			if pick(3) == 0 {
				drop(t, p, m)
				came["dropped"]++
			}
		default:
			had := m.counts >= 0
			switch {
			case !get(t, p, m, m.chosenNum(pick), pick(9)-2):
				came["no answer"]++
			case had:
				came["a later answer"]++
			default:
				came["an answer"]++
			}
		}
		clock, commit := chosenTime(now, pick), pick(9)-2
		wantLeft(t, p, clock, commit, m.left(clock, commit))
		if m.good(clock, commit) {
			came["good"]++
		}
	}
	return came
}

func TestP22Scripts(t *testing.T) {
	all := map[string]int{}
	for seed := range int64(3000) {
		for kind, n := range script(t, rand.New(rand.NewSource(seed)).Intn, 40) {
			all[kind] += n
		}
	}
	// The scripts are such that each kind of answer comes often.
	for _, kind := range []string{"dropped", "no answer", "an answer", "a later answer", "good"} {
		if all[kind] < 1000 {
			t.Errorf("%d answers: %s", all[kind], kind)
		}
	}
}

func FuzzProof(f *testing.F) {
	f.Add([]byte{})
	f.Add([]byte{4, 31, 2, 0, 1, 2, 3, 4, 5, 6, 7, 8, 9, 10, 11, 12, 13, 14, 15, 16})
	f.Add([]byte("the quick brown fox jumps over the lazy dog"))
	f.Fuzz(func(t *testing.T, b []byte) {
		pick := func(n int) int {
			if len(b) == 0 {
				return 0
			}
			c := int(b[0])
			b = b[1:]
			return c % n
		}
		script(t, pick, min(60, len(b)/4+1))
	})
}
