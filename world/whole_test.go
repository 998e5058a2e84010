package world

import (
	"fmt"
	"math/rand"
	"slices"
	"testing"

	"curfew/api"
	"curfew/entry"
	"curfew/judge"
	"curfew/team"
	"curfew/wire"
)

// late is for how long, in real time, one that is Good may not know of what was told, and of a view.
const late = 26

// whole plays a world, and holds what the whole keeps (G1 to G5) behind each step.
type whole struct {
	t     *testing.T
	pick  func(n int) int
	w     *World
	n     int
	lives []life // by id, the present or the last one
	elder []life // those that ended
	idle  []int  // for how many ticks of real time a clock did not go on, by id
	casts []api.Entry
	fixed []api.Entry // the longest that was within a commit
	teams map[int64]team.Team
	tells []tell
	goods int
}

// life is a start of a process, and what was seen of it.
type life struct {
	boot, promise int64
	told          []api.Told
	casts         []api.Entry
}

// tell is when an entry was told first as Strong or Strict, or (view is above 0) a view was first installed.
type tell struct {
	e    api.Entry
	view int64
	real int64
}

func newWhole(t *testing.T, n int, pick func(n int) int) *whole {
	p := &whole{
		t: t, pick: pick, w: New(n), n: n,
		lives: make([]life, n+1), idle: make([]int, n+1), teams: map[int64]team.Team{},
	}
	p.lookAtAll()
	return p
}

// step does it, and looks at whom it has to do with.
func (p *whole) step(s api.Step) api.Errno {
	p.t.Helper()
	err := p.w.Step(s)
	if err != api.OK {
		return err
	}
	switch s.Fn {
	case api.STick, api.SStart:
		p.idle[s.A] = 0
	case api.SCast:
		p.wasCast(s)
	case api.SWell:
		clear(p.idle)
	}
	switch s.Fn {
	case api.STick, api.SStart, api.SCrash, api.SCast:
		p.look(s.A)
	default:
		p.lookAtAll()
	}
	return err
}

// wasCast keeps what was cast, as the chapters say: the Seq of each start counts from 1.
func (p *whole) wasCast(s api.Step) {
	l := &p.lives[s.A]
	e := api.Entry{From: s.A, Boot: l.boot, Seq: int64(len(l.casts) + 1), Order: s.Order, Level: s.Level, Data: s.Data}
	l.casts = append(l.casts, e)
	p.casts = append(p.casts, e)
}

// real lets real time go on by one; each clock goes on at least once in any two ticks of it.
func (p *whole) real() {
	p.t.Helper()
	p.hurry()
	for id := range p.idle {
		p.idle[id]++
	}
	p.step(api.Step{Fn: api.SReal})
}

// hurry lets the clocks go on that must before real time does.
func (p *whole) hurry() {
	for id := 1; id <= p.n; id++ {
		if p.idle[id] >= 2 {
			p.step(api.Step{Fn: api.STick, A: id})
		}
	}
}

func (p *whole) lookAtAll() {
	p.t.Helper()
	for id := 1; id <= p.n; id++ {
		p.look(id)
	}
}

func (p *whole) look(id int) {
	p.t.Helper()
	p.lookAtDisk(id)
	x := p.w.Node(id)
	if x == nil {
		return
	}
	view, members, in := x.View()
	if !x.Knows() && (in || x.Good() || len(x.Told()) > 0) {
		p.t.Fatalf("G3: %d does not know", id)
	}
	if in {
		p.lookAtView(id, view, members)
	}
	p.lookAtTold(id)
	within := x.Log()[:x.Commit()]
	if !judge.Agree(within, len(within), p.fixed, len(p.fixed)) {
		p.t.Fatalf("G4: %d has %v; elsewhere are %v", id, within, p.fixed)
	}
	if len(within) > len(p.fixed) {
		p.fixed = within
	}
	p.lookAtGood(id, within)
}

func (p *whole) lookAtDisk(id int) {
	p.t.Helper()
	d := p.w.Disk(id)
	l := &p.lives[id]
	if d.Boot() < l.boot || d.View() < l.promise {
		p.t.Fatalf("G3: %d had the start %d and promised %d; now %d, %d", id, l.boot, l.promise, d.Boot(), d.View())
	}
	if d.Boot() > l.boot {
		if l.boot > 0 {
			p.elder = append(p.elder, *l)
		}
		*l = life{boot: d.Boot()}
	}
	l.promise = d.View()
}

func (p *whole) lookAtView(id int, view int64, members team.Team) {
	p.t.Helper()
	was, ok := p.teams[view]
	if !ok {
		p.teams[view] = members
		p.tells = append(p.tells, tell{view: view, real: p.w.Real()})
	} else if was != members {
		p.t.Fatalf("G1: the view %d has %v, and for %d %v", view, was.List(), id, members.List())
	}
	if !team.Most(members, p.n) {
		p.t.Fatalf("G1: the view %d has %v, of %d", view, members.List(), p.n)
	}
}

func (p *whole) lookAtTold(id int) {
	p.t.Helper()
	l := &p.lives[id]
	told := p.w.Node(id).Told()
	if len(told) < len(l.told) || !slices.Equal(told[:len(l.told)], l.told) {
		p.t.Fatalf("%d told %v, and now %v", id, l.told, told)
	}
	now := told[len(l.told):]
	if len(now) == 0 {
		return
	}
	l.told = told
	if !judge.Once(told) {
		p.t.Fatalf("G1: %d told one twice: %v", id, told)
	}
	if !judge.Cast(now, p.casts) {
		p.t.Fatalf("G1: %d told what nobody cast: %v", id, now)
	}
	for _, y := range slices.Concat(p.elder, p.lives) {
		if !judge.Prefix(told, y.told) {
			p.t.Fatalf("G1: %d told %v; elsewhere %v was", id, judge.Firm(told), judge.Firm(y.told))
		}
	}
	for _, y := range now {
		if y.E.Level != api.Weak && !slices.ContainsFunc(p.tells, func(z tell) bool { return z.view == 0 && entry.Same(z.e, y.E) }) {
			p.tells = append(p.tells, tell{e: y.E, real: p.w.Real()})
		}
	}
}

func (p *whole) lookAtGood(id int, within []api.Entry) {
	p.t.Helper()
	x := p.w.Node(id)
	if !x.Good() {
		return
	}
	p.goods++
	for _, y := range p.tells {
		if p.w.Real()-y.real <= late {
			continue
		}
		if y.view > x.Last() {
			p.t.Fatalf("G2: %d is Good in %d at %d; %d was installed at %d", id, x.Last(), p.w.Real(), y.view, y.real)
		}
		if y.view == 0 && !slices.Contains(within, y.e) {
			p.t.Fatalf("G2: %d is Good at %d; it has not %v, told at %d", id, p.w.Real(), y.e, y.real)
		}
	}
}

// roundOf is one in which those of the team hear one another at once, and nobody else: behind each tick, or behind all.
func (p *whole) roundOf(who team.Team, behindEach bool) {
	p.t.Helper()
	p.real()
	for _, id := range who.List() {
		p.step(api.Step{Fn: api.STick, A: id})
		if behindEach {
			p.hearOneAnother(who)
		}
	}
	p.hearOneAnother(who)
}

func (p *whole) hearOneAnother(who team.Team) {
	p.t.Helper()
	for p.w.Net().Len() > 0 {
		b, _ := p.w.Net().Look(0)
		if m, _ := wire.Decode(b); who.Has(m.From) && who.Has(m.To) {
			p.step(api.Step{Fn: api.SSend})
		} else {
			p.step(api.Step{Fn: api.SDrop})
		}
	}
}

// knowing are those that are up and know.
func (p *whole) knowing() team.Team {
	var who team.Team
	for id := 1; id <= p.n; id++ {
		if p.w.Node(id).Knows() {
			who = who.With(id)
		}
	}
	return who
}

// someOf are some of those that know, most of all; none, if there are not so many.
func (p *whole) someOf(who team.Team) team.Team {
	if !team.Most(who, p.n) {
		return 0
	}
	for _, id := range who.List() {
		if team.Most(who.Without(id), p.n) && p.pick(2) == 0 {
			who = who.Without(id)
		}
	}
	return who
}

// inTheEnd holds G5; it tells whether there was something to hold.
func (p *whole) inTheEnd() bool {
	p.t.Helper()
	who := p.someOf(p.knowing())
	if who == 0 {
		return false
	}
	if p.pick(2) == 0 {
		p.dropAll()
	}
	behindEach := p.pick(2) == 0
	for _, id := range who.List() {
		for range p.pick(4) {
			p.step(api.Step{Fn: api.SCast, A: id, Order: p.pick(2), Level: p.pick(3), Data: "in=end"})
		}
	}
	for range 100 {
		p.roundOf(who, behindEach)
	}
	p.wantOneView(who)
	p.wantAllTold(who)
	return true
}

func (p *whole) dropAll() {
	for p.w.Net().Len() > 0 {
		p.step(api.Step{Fn: api.SDrop})
	}
}

func (p *whole) wantOneView(who team.Team) {
	p.t.Helper()
	one, _, _ := p.w.Node(who.List()[0]).View()
	for _, id := range who.List() {
		x := p.w.Node(id)
		if view, members, in := x.View(); !in || view != one || members != who || !x.Good() {
			p.t.Fatalf("G5: of %v %d is in %d (%v) of %v, Good: %v", who.List(), id, view, in, members.List(), x.Good())
		}
	}
}

func (p *whole) wantAllTold(who team.Team) {
	p.t.Helper()
	log := p.w.Node(who.List()[0]).Log()
	if len(log) == api.MaxLog || slices.ContainsFunc(log, func(e api.Entry) bool { return e.Order == api.Timed }) {
		return
	}
	for _, id := range who.List() {
		for _, of := range who.List() {
			for _, e := range p.lives[of].casts {
				if !slices.ContainsFunc(p.lives[id].told, func(y api.Told) bool { return entry.Same(y.E, e) }) {
					p.t.Fatalf("G5: %d did not tell %v", id, e)
				}
			}
		}
	}
}

// weights tell how often what is in a random script.
type weights struct{ real, tick, comes, drop, again, crash, start, cast, well, round int }

func (k weights) list() []int {
	return []int{k.real, k.tick, k.comes, k.drop, k.again, k.crash, k.start, k.cast, k.well, k.round}
}

// draw is which of the weights it falls on.
func (p *whole) draw(k weights) int {
	sum := 0
	for _, x := range k.list() {
		sum += x
	}
	at := p.pick(sum)
	for i, x := range k.list() {
		if at < x {
			return i
		}
		at -= x
	}
	return 0
}

func (p *whole) random(k weights, orders int) {
	p.t.Helper()
	s := api.Step{A: 1 + p.pick(p.n)}
	if n := p.w.Net().Len(); n > 0 {
		s.N = p.pick(n)
		if p.pick(3) > 0 {
			s.N = p.pick(min(n, 4))
		}
	}
	switch what := p.draw(k); what {
	case 0:
		p.real()
		return
	case 1, 2, 3, 4, 5, 6:
		s.Fn = []int{api.STick, api.SSend, api.SDrop, api.SAgain, api.SCrash, api.SStart}[what-1]
	case 7:
		p.castOne(orders)
		return
	case 8:
		p.hurry()
		s.Fn, s.N = api.SWell, p.pick(3)
	case 9:
		who := p.someOf(p.up())
		for range p.pick(3) * p.pick(14) {
			p.roundOf(who, s.A == 1)
		}
		return
	}
	p.step(s)
}

// up are those that are.
func (p *whole) up() team.Team {
	var who team.Team
	for id := 1; id <= p.n; id++ {
		if p.w.Node(id) != nil {
			who = who.With(id)
		}
	}
	return who
}

func weightsOf(pick func(n int) int) weights {
	return weights{
		real: 1 + pick(6), tick: 5 + pick(20), comes: 10 + pick(60), drop: pick(8), again: pick(8),
		crash: pick(3) * pick(2), start: 1 + pick(3), cast: pick(4), well: pick(3), round: pick(2),
	}
}

// odds are out of a hundred: that a message stays on its way for longer, comes and stays, is lost; that one falls.
type odds struct{ late, again, lost, crash int }

func oddsOf(pick func(n int) int) odds {
	return odds{late: pick(30) * pick(2), again: pick(20), lost: pick(20), crash: pick(7) * pick(2)}
}

// period is some rounds in which those of a team hear one another, mostly; what others sent stays on its way, mostly.
func (p *whole) period(k odds, orders int) {
	p.t.Helper()
	who := team.Team(p.pick(1 << p.n))
	for range 1 + p.pick(40) {
		p.real()
		p.tickSome()
		if p.pick(3) == 0 {
			p.castOne(orders)
		}
		p.hearSome(who, k)
		for p.w.Net().Len() > 250 {
			p.step(api.Step{Fn: api.SDrop, N: p.pick(p.w.Net().Len())})
		}
		if p.pick(100) < k.crash {
			p.step(api.Step{Fn: api.SCrash, A: 1 + p.pick(p.n)})
		}
		if p.pick(10) == 0 {
			p.step(api.Step{Fn: api.SStart, A: 1 + p.pick(p.n)})
		}
	}
}

// tickSome lets some clocks go on, and some of them twice.
func (p *whole) tickSome() {
	p.t.Helper()
	for id := 1; id <= p.n; id++ {
		for range p.pick(5) * 2 / 3 {
			p.step(api.Step{Fn: api.STick, A: id})
		}
	}
}

func (p *whole) castOne(orders int) {
	p.t.Helper()
	data := fmt.Sprint("k", p.pick(4), "=", p.pick(100))
	p.step(api.Step{Fn: api.SCast, A: 1 + p.pick(p.n), Order: p.pick(orders), Level: p.pick(3), Data: data})
}

func (p *whole) hearSome(who team.Team, k odds) {
	p.t.Helper()
	for i := 0; i < p.w.Net().Len(); {
		b, _ := p.w.Net().Look(i)
		m, _ := wire.Decode(b)
		stays := 97
		if who.Has(m.From) && who.Has(m.To) {
			stays = k.late
		}
		switch {
		case p.pick(100) < stays:
			i++
		case p.pick(100) < k.lost:
			p.step(api.Step{Fn: api.SDrop, N: i})
		case p.pick(100) < k.again:
			p.step(api.Step{Fn: api.SAgain, N: i})
			i++
		default:
			p.step(api.Step{Fn: api.SSend, N: i})
		}
	}
}

// sum is how much there was to hold in some worlds.
type sum struct{ ends, goods, tells, starts, fixed int }

func (x *sum) add(p *whole) {
	if p.inTheEnd() {
		x.ends++
	}
	x.goods += p.goods
	x.tells += len(p.tells)
	x.starts += len(p.elder)
	x.fixed += len(p.fixed)
}

func (x sum) want(t *testing.T, least sum) {
	t.Helper()
	t.Logf("%+v", x)
	if x.ends < least.ends || x.goods < least.goods || x.tells < least.tells || x.starts < least.starts || x.fixed < least.fixed {
		t.Errorf("%+v; want at least %+v", x, least)
	}
}

func TestGWorlds(t *testing.T) {
	var all sum
	for seed := range int64(60) {
		r := rand.New(rand.NewSource(seed))
		p := newWhole(t, 3+r.Intn(5), r.Intn)
		k := weightsOf(r.Intn)
		orders := 2 + r.Intn(2) // in some none is Timed
		for range 1000 {
			p.random(k, orders)
		}
		all.add(p)
	}
	all.want(t, sum{ends: 20, goods: 100000, tells: 400, starts: 100, fixed: 400})
}

func TestGPeriods(t *testing.T) {
	var all sum
	for seed := range int64(40) {
		r := rand.New(rand.NewSource(seed))
		p := newWhole(t, []int{3, 3, 3, 4, 5, 6, 7}[r.Intn(7)], r.Intn)
		k := oddsOf(r.Intn)
		orders := 2 + r.Intn(2)
		for range 8 {
			p.period(k, orders)
		}
		all.add(p)
	}
	all.want(t, sum{ends: 20, goods: 50000, tells: 300, starts: 30, fixed: 300})
}

// If some fall, the others go on without them; if these come back, all go on together. All that any of them cast is told by all.
func TestG5Well(t *testing.T) {
	for n := 3; n <= 7; n++ {
		for down := range (n + 1) / 2 {
			p := newWhole(t, n, rand.New(rand.NewSource(int64(n))).Intn)
			p.step(api.Step{Fn: api.SWell, N: 20})
			for id := 1; id <= down; id++ {
				p.step(api.Step{Fn: api.SCrash, A: id})
			}
			p.wellFor(100, team.Team(1<<n-1<<down))
			for id := 1; id <= down; id++ {
				p.step(api.Step{Fn: api.SStart, A: id})
			}
			p.wellFor(100, team.Team(1<<n-1))
			first := judge.Firm(p.w.Node(1).Told())
			if len(first) != n+n-down {
				t.Errorf("of %d, %d of whom fell: %v", n, down, first)
			}
			for id := 2; id <= n; id++ {
				if got := judge.Firm(p.w.Node(id).Told()); !slices.Equal(got, first) {
					t.Errorf("of %d, %d told %v; want %v", n, id, got, first)
				}
			}
		}
	}
}

// wellFor lets all be well, twice, and those that are up cast in between.
func (p *whole) wellFor(rounds int, who team.Team) {
	p.t.Helper()
	p.step(api.Step{Fn: api.SWell, N: rounds})
	p.wantOneView(who)
	for _, id := range who.List() {
		if err := p.step(api.Step{Fn: api.SCast, A: id, Order: api.Total, Level: api.Strong, Data: "a=1"}); err != api.OK {
			p.t.Fatalf("a Cast of %d: %v", id, err)
		}
	}
	p.step(api.Step{Fn: api.SWell, N: rounds})
	p.wantOneView(who)
	p.wantAllTold(who)
}

// One whom nobody hears, and who hears nobody, is not Good for longer than it may be, also if its clock is as slow as may be.
func TestG2Alone(t *testing.T) {
	for n := 3; n <= 7; n++ {
		for alone := 1; alone <= n; alone++ {
			p := newWhole(t, n, rand.New(rand.NewSource(int64(n))).Intn)
			p.step(api.Step{Fn: api.SWell, N: 40})
			others := team.Team(1<<n - 1).Without(alone)
			for range 4 {
				p.step(api.Step{Fn: api.SCast, A: others.List()[1], Order: api.Total, Level: api.Strong, Data: "a=1"})
			}
			for k := range 80 {
				p.roundOf(others, false)
				if good := p.w.Node(alone).Good(); good && k > 24 || !good && k < 20 {
					t.Errorf("of %d, %d, who is alone for %d rounds: %v", n, alone, k, good)
				}
			}
			p.wantOneView(others)
		}
	}
}

// Who came back is nothing till it knows, and it knows by a word of who decides alone.
func TestG3Back(t *testing.T) {
	for n := 3; n <= 7; n++ {
		p := newWhole(t, n, rand.New(rand.NewSource(int64(n))).Intn)
		p.step(api.Step{Fn: api.SWell, N: 20})
		p.step(api.Step{Fn: api.SCast, A: n, Order: api.Total, Level: api.Strong, Data: "a=1"})
		p.step(api.Step{Fn: api.SWell, N: 5})
		p.step(api.Step{Fn: api.SCrash, A: n})
		p.step(api.Step{Fn: api.SStart, A: n})
		for range 30 {
			p.step(api.Step{Fn: api.STick, A: n})
			p.dropAll()
			x, s := p.w.Node(n), p.w.Client(n).Status()
			if x.Knows() || s.In || s.Good || s.Told != 0 || s.Len != 0 || p.w.Step(api.Step{Fn: api.SCast, A: n}) != api.ErrNoView {
				t.Fatalf("of %d, %d is back: %v", n, n, s)
			}
		}
		p.step(api.Step{Fn: api.SWell, N: 5})
		if s := p.w.Client(n).Status(); !p.w.Node(n).Knows() || !s.In || !s.Good || s.Told != 1 || p.w.Node(n).Boot() != 2 {
			t.Errorf("of %d, %d knows: %v", n, n, s)
		}
	}
}
