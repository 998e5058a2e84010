package node

import (
	"fmt"
	"math/rand"
	"slices"
	"testing"

	"curfew/api"
	"curfew/stable"
	"curfew/team"
	"curfew/wire"
)

// world is processes, each beside its model, with what is on its way between them.
type world struct {
	t        *testing.T
	pick     func(n int) int
	n        int
	disks    []*stable.Disk
	up       []*pair // nil: it is down
	all      []*pair // each start that ever was
	away     []api.Msg
	real     int64
	idle     []int // for how many ticks of real time a clock did not go on
	casts    []api.Entry
	teams    map[int64]team.Team // who installed a view
	firm     []api.Entry         // the longest that was told as Total and Strong or Strict
	tells    []tell
	views    []tell // of each view that was installed, when
	boots    []int64
	promises []int64 // the promises
	goods    int
}

// tell is when an entry was told as Strong or Strict for the first time, or when a view was installed.
type tell struct {
	e    api.Entry
	view int64
	real int64
}

func newWorld(t *testing.T, n int, pick func(n int) int) *world {
	w := &world{t: t, pick: pick, n: n, teams: map[int64]team.Team{}}
	for id := range n + 1 {
		w.disks = append(w.disks, &stable.Disk{})
		w.up = append(w.up, nil)
		w.idle = append(w.idle, 0)
		w.boots, w.promises = append(w.boots, 0), append(w.promises, 0)
		if id > 0 {
			w.start(id)
		}
	}
	return w
}

func (w *world) start(id int) {
	w.up[id] = newPair(w.t, id, w.n, w.disks[id])
	w.all = append(w.all, w.up[id])
	w.idle[id] = 0
}

func (w *world) send(ms []api.Msg) { w.away = append(w.away, ms...) }

func (w *world) tick(id int) {
	w.idle[id] = 0
	w.send(w.up[id].tick())
	w.look(id)
}

// comes lets a message come; what nobody hears is lost.
func (w *world) comes(m api.Msg) {
	if w.up[m.To] != nil {
		w.send(w.up[m.To].hearBytes(wire.Encode(m)))
		w.look(m.To)
	}
}

func (w *world) cast(id, order, level int, data string) bool {
	p := w.up[id]
	if p.cast(order, level, data) != api.OK {
		return false
	}
	w.casts = append(w.casts, p.m.waits[len(p.m.waits)-1])
	return true
}

// realTick lets real time go on by one: each clock goes on at least once in any two ticks of it.
func (w *world) realTick() {
	for id := 1; id <= w.n; id++ {
		if w.up[id] != nil && w.idle[id] == 2 {
			w.tick(id)
		}
		w.idle[id]++
	}
	w.real++
	w.goodOnesAreUpToDate()
}

// look holds what the whole keeps of a process that something happened to.
func (w *world) look(id int) {
	p := w.up[id]
	x, m := p.x, p.m
	if w.disks[id].Boot() < w.boots[id] || w.disks[id].View() < w.promises[id] {
		w.t.Fatalf("G3: of %d a start or a promise fell", id)
	}
	w.boots[id], w.promises[id] = w.disks[id].Boot(), w.disks[id].View()
	if _, _, in := x.View(); !x.Knows() && (in || x.Good() || len(x.Told()) > 0) {
		w.t.Fatalf("G3: %d does not know", id)
	}
	if view, members, in := x.View(); in {
		if was, ok := w.teams[view]; ok && was != members {
			w.t.Fatalf("G1: view %d of %v and of %v", view, was.List(), members.List())
		}
		if !team.Most(members, w.n) || !members.Has(id) {
			w.t.Fatalf("G1: view %d of %v", view, members.List())
		}
		if _, ok := w.teams[view]; !ok {
			w.teams[view] = members
			w.views = append(w.views, tell{view: view, real: w.real})
		}
	}
	w.lookAtTold(id)
	for _, y := range w.up {
		if y != nil && y != p {
			l := min(m.commit, y.m.commit)
			if !slices.Equal(m.log[:l], y.m.log[:l]) {
				w.t.Fatalf("G4: %d and %d: %v, %v", id, y.m.id, m.log[:l], y.m.log[:l])
			}
		}
	}
	w.goodIsUpToDate(id)
}

func (w *world) lookAtTold(id int) {
	told := w.up[id].m.told
	var firm []api.Entry
	for i, y := range told {
		if y.E.Order == api.Total && y.E.Level != api.Weak {
			firm = append(firm, y.E)
		}
		if slices.ContainsFunc(told[:i], func(z api.Told) bool { return same(z.E, y.E) }) {
			w.t.Fatalf("G1: %d told %v twice", id, y.E)
		}
		if !slices.ContainsFunc(w.casts, func(e api.Entry) bool {
			return same(e, y.E) && e.Order == y.E.Order && e.Level == y.E.Level && e.Data == y.E.Data
		}) {
			w.t.Fatalf("G1: %d told %v, which nobody cast", id, y.E)
		}
		if y.E.Level != api.Weak && !slices.ContainsFunc(w.tells, func(z tell) bool { return same(z.e, y.E) }) {
			w.tells = append(w.tells, tell{e: y.E, real: w.real})
		}
	}
	l := min(len(firm), len(w.firm))
	if !slices.Equal(firm[:l], w.firm[:l]) {
		w.t.Fatalf("G1: %d told %v, and elsewhere %v was", id, firm, w.firm)
	}
	if len(firm) > len(w.firm) {
		w.firm = firm
	}
}

func (w *world) goodOnesAreUpToDate() {
	for id := 1; id <= w.n; id++ {
		if w.up[id] != nil {
			w.goodIsUpToDate(id)
		}
	}
}

func (w *world) goodIsUpToDate(id int) {
	x := w.up[id].x
	if !x.Good() {
		return
	}
	w.goods++
	within := x.Log()[:x.Commit()]
	for _, y := range w.tells {
		if w.real-y.real > 26 && !slices.Contains(within, y.e) {
			w.t.Fatalf("G2: %d is Good at %d, and has not %v, told at %d", id, w.real, y.e, y.real)
		}
	}
	for _, y := range w.views {
		if w.real-y.real > 26 && y.view > x.Last() {
			w.t.Fatalf("G2: %d is Good at %d in %d, and %d was installed at %d", id, w.real, x.Last(), y.view, y.real)
		}
	}
}

// round lets each one in the team that is up tick, and all messages among them come; others are lost.
func (w *world) round(who team.Team) {
	w.realTick()
	for _, id := range who.List() {
		if w.up[id] != nil {
			w.tick(id)
		}
	}
	for k := 0; len(w.away) > 0; k++ {
		m := w.away[0]
		w.away = w.away[1:]
		if who.Has(m.From) && who.Has(m.To) {
			w.comes(m)
		}
		if k > 3000 {
			w.t.Fatal("messages without end")
		}
	}
}

// weights tell how often what happens in a random script.
type weights struct{ real, tick, comes, drop, again, crash, start, cast, well int }

func (w *world) step(k weights) {
	id := 1 + w.pick(w.n)
	all := []int{k.real, k.tick, k.comes, k.drop, k.again, k.crash, k.start, k.cast, k.well}
	sum := 0
	for _, x := range all {
		sum += x
	}
	what, at := 0, w.pick(sum)
	for at >= all[what] {
		at -= all[what]
		what++
	}
	switch {
	case what == 0:
		w.realTick()
	case what == 1 && w.up[id] != nil:
		w.tick(id)
	case what <= 4 && what >= 2 && len(w.away) > 0:
		i := w.pick(len(w.away))
		if w.pick(2) == 0 {
			i = w.pick(min(len(w.away), 4))
		}
		m := w.away[i]
		if what != 4 {
			w.away = slices.Delete(w.away, i, i+1)
		}
		if what != 3 {
			w.comes(m)
		}
		if len(w.away) > 400 {
			w.away = w.away[len(w.away)-400:]
		}
	case what == 5:
		w.up[id] = nil
	case what == 6 && w.up[id] == nil:
		w.start(id)
	case what == 7 && w.up[id] != nil:
		w.cast(id, w.pick(3), w.pick(3), fmt.Sprint("k", w.pick(4), "=", len(w.casts)%100))
	case what == 8:
		for range w.pick(4) {
			w.round(1<<w.n - 1)
		}
	}
}

// knowing are those that are up and know.
func (w *world) knowing() team.Team {
	var l team.Team
	for id := 1; id <= w.n; id++ {
		if w.up[id] != nil && w.up[id].m.knows {
			l = l.With(id)
		}
	}
	return l
}

// inTheEnd holds G5 of some of those that know.
func (w *world) inTheEnd() bool {
	who := w.knowing()
	for _, id := range who.List() {
		if team.Most(who.Without(id), w.n) && w.pick(2) == 0 {
			who = who.Without(id)
		}
	}
	if !team.Most(who, w.n) {
		return false
	}
	w.away = nil
	for range 100 {
		w.round(who)
	}
	view, _, _ := w.up[who.List()[0]].x.View()
	for _, id := range who.List() {
		x := w.up[id].x
		if u, members, in := x.View(); !in || u != view || members != who || !x.Good() {
			w.t.Fatalf("G5: of %v %d is in %d of %v, %v, %v", who.List(), id, u, members.List(), in, x.Good())
		}
	}
	w.castsAreTold(who)
	return true
}

func (w *world) castsAreTold(who team.Team) {
	x := w.up[who.List()[0]].x
	for _, e := range x.Log() {
		if e.Order == api.Timed {
			return
		}
	}
	was := len(w.casts)
	for _, id := range who.List() {
		for range w.pick(4) {
			w.cast(id, w.pick(2), w.pick(3), "z=1")
		}
	}
	for range 100 {
		w.round(who)
	}
	if len(x.Log())+len(w.casts)-was > 60 || len(x.Log()) == 60 {
		return
	}
	for _, id := range who.List() {
		for _, e := range w.casts[was:] {
			if !slices.ContainsFunc(w.up[id].m.told, func(y api.Told) bool { return same(y.E, e) }) {
				w.t.Fatalf("G5: %d did not tell %v", id, e)
			}
		}
	}
}

func TestGWorlds(t *testing.T) {
	ends, goods, told, views := 0, 0, 0, 0
	for seed := range int64(60) {
		r := rand.New(rand.NewSource(seed))
		w := newWorld(t, 3+r.Intn(5), r.Intn)
		k := weights{
			real: 1 + r.Intn(6), tick: 5 + r.Intn(20), comes: 10 + r.Intn(60), drop: r.Intn(8), again: r.Intn(8),
			crash: r.Intn(3) * r.Intn(2), start: 1 + r.Intn(3), cast: r.Intn(4), well: r.Intn(4),
		}
		for range 1500 {
			w.step(k)
		}
		if w.inTheEnd() {
			ends++
		}
		goods += w.goods
		told += len(w.tells)
		views += len(w.views)
	}
	t.Log(ends, goods, told, views)
	// The worlds are such that what is held is so often.
	if ends < 10 || goods < 10000 || told < 200 || views < 60 {
		t.Errorf("%d ended, %d times Good, %d told, %d views", ends, goods, told, views)
	}
}
