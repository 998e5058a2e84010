package world

import (
	"fmt"
	"math"
	"math/rand"
	"slices"
	"strings"
	"testing"

	"curfew/api"
	"curfew/client"
	"curfew/node"
	"curfew/stable"
	"curfew/team"
	"curfew/wire"
)

// model is processes that work, by the chapter's words.
type model struct {
	n     int
	real  int64
	disks map[int]*stable.Disk
	up    map[int]*node.Node
	lost  map[int]int64 // Casts that were refused, in the present start
	way   [][]byte
}

func newModel(n int) *model {
	m := &model{n: n, disks: map[int]*stable.Disk{}, up: map[int]*node.Node{}, lost: map[int]int64{}}
	for id := 1; id <= n; id++ {
		m.disks[id] = &stable.Disk{}
		m.start(id)
	}
	return m
}

func (m *model) start(id int) {
	m.up[id], _ = node.Make(id, m.n, m.disks[id])
	m.lost[id] = 0
}

func (m *model) goes(ms []api.Msg) {
	for _, x := range ms {
		if len(m.way) < 400 {
			m.way = append(m.way, wire.Encode(x))
		}
	}
}

func (m *model) comes(i int, stays bool) {
	b := m.way[i]
	if !stays {
		m.way = slices.Delete(m.way, i, i+1)
	}
	x, _ := wire.Decode(b)
	if y, ok := m.up[x.To]; ok {
		m.goes(y.Hear(b))
	}
}

// refusal is the first error that the chapter names for a step; what a client tells is not here.
func (m *model) refusal(s api.Step) api.Errno {
	ofProcess := s.Fn == api.STick || s.Fn >= api.SCrash && s.Fn <= api.SCast
	ofMessage := s.Fn >= api.SSend && s.Fn <= api.SAgain
	isUp := m.up[s.A] != nil
	switch {
	case s.Fn < api.SReal || s.Fn > api.SWell:
		return api.ErrForm
	case ofProcess && (s.A < 1 || s.A > m.n):
		return api.ErrNone
	case ofMessage && (s.N < 0 || s.N >= len(m.way)), s.Fn == api.SWell && (s.N < 0 || s.N > 200):
		return api.ErrRange
	case ofProcess && s.Fn != api.SStart && !isUp:
		return api.ErrDown
	case s.Fn == api.SStart && isUp:
		return api.ErrBusy
	}
	return api.OK
}

func (m *model) step(s api.Step) api.Errno {
	if err := m.refusal(s); err != api.OK {
		return err
	}
	switch s.Fn {
	case api.SReal:
		m.real++
	case api.STick:
		m.goes(m.up[s.A].Tick())
	case api.SSend, api.SAgain:
		m.comes(s.N, s.Fn == api.SAgain)
	case api.SDrop:
		m.way = slices.Delete(m.way, s.N, s.N+1)
	case api.SCrash:
		delete(m.up, s.A)
	case api.SStart:
		m.start(s.A)
	case api.SCast:
		err := m.up[s.A].Cast(s.Order, s.Level, s.Data)
		if err != api.OK {
			m.lost[s.A]++
		}
		return err
	case api.SWell:
		for range s.N {
			m.wellOnce()
		}
	}
	return api.OK
}

func (m *model) wellOnce() {
	m.real++
	for id := 1; id <= m.n; id++ {
		if m.up[id] != nil {
			m.goes(m.up[id].Tick())
		}
	}
	for count := 0; len(m.way) > 0 && count < 3000; count++ {
		m.comes(0, false)
	}
}

// told is all that can be seen of a process.
func told(x *node.Node) string {
	var words []string
	for _, name := range x.Table().Names() {
		word, _ := x.Table().Get(name)
		words = append(words, name, word)
	}
	view, members, in := x.View()
	return fmt.Sprint(x.Boot(), x.Clock(), x.Knows(), x.Last(), view, members, in, x.Good(), x.Log(), x.Commit(), x.Told(), x.Waits(), words)
}

// seen is all that can be seen of a model.
func (m *model) seen() string {
	l := []string{fmt.Sprint(m.real)}
	for id := 1; id <= m.n; id++ {
		l = append(l, fmt.Sprint(id, m.disks[id].Boot(), m.disks[id].View()))
		if x := m.up[id]; x != nil {
			l = append(l, told(x), fmt.Sprint(client.New(x).Status(), m.lost[id]))
		}
	}
	for _, b := range m.way {
		x, _ := wire.Decode(b)
		l = append(l, fmt.Sprintf("%d %x", x.To, b))
	}
	return strings.Join(l, "\n")
}

// seen is all that can be seen of a world of n.
func seen(w *World, n int) string {
	l := []string{fmt.Sprint(w.Real())}
	for id := 1; id <= n; id++ {
		l = append(l, fmt.Sprint(id, w.Disk(id).Boot(), w.Disk(id).View()))
		if x := w.Node(id); x != nil {
			l = append(l, told(x), fmt.Sprint(w.Client(id).Status(), w.Client(id).Lost()))
		}
	}
	for i := range w.Net().Len() {
		b, _ := w.Net().Look(i)
		l = append(l, fmt.Sprintf("%d %x", w.Net().To(i), b))
	}
	return strings.Join(l, "\n")
}

// beside plays a world beside its model.
type beside struct {
	t       *testing.T
	w       *World
	m       *model
	answers map[int]map[api.Errno]int // how often a step was answered so, by Fn
}

func (b *beside) step(s api.Step) {
	b.t.Helper()
	got, want := b.w.Step(s), b.m.step(s)
	if got != want {
		b.t.Fatalf("%v: %v; want %v", s, got, want)
	}
	if got, want := seen(b.w, b.m.n), b.m.seen(); got != want {
		b.t.Fatalf("%v:\n%s\nwant\n%s", s, got, want)
	}
	fn := max(0, min(s.Fn, 10))
	if b.answers[fn] == nil {
		b.answers[fn] = map[api.Errno]int{}
	}
	b.answers[fn][got]++
}

// drawStep draws one that can mostly be done, or one with something wrong in it.
func drawStep(pick func(n int) int, n, onTheirWay int) api.Step {
	wrong := []int{0, -1, math.MinInt64, math.MaxInt64, 1 << 32, 1<<32 + 1, 8, 201, 400}
	s := api.Step{
		Fn: []int{1, 2, 2, 2, 2, 2, 3, 3, 3, 3, 3, 3, 4, 5, 6, 7, 7, 8, 8, 8, 8, 8, 9}[pick(23)],
		A:  1 + pick(n), N: pick(3), Order: pick(3), Level: pick(3), Data: fmt.Sprint("k", pick(3), "=", pick(9)),
	}
	if pick(2) == 0 {
		s.N = pick(max(1, onTheirWay))
	}
	if s.Fn == api.SWell {
		s.N = pick(pick(14) + 1)
	}
	switch pick(40) {
	case 0:
		s.Fn = wrong[pick(9)]
	case 1:
		s.A = wrong[pick(9)]
	case 2:
		s.N = wrong[pick(9)]
	case 3:
		s.Order, s.Level = wrong[pick(9)], wrong[pick(9)]
	case 4:
		s.A = n + 1
	case 5:
		s.N = onTheirWay
	case 6:
		s.Fn = 10
	}
	return s
}

func TestP27_2Scripts(t *testing.T) {
	b := &beside{t: t, answers: map[int]map[api.Errno]int{}}
	for seed := range int64(40) {
		r := rand.New(rand.NewSource(seed))
		n := 3 + r.Intn(5)
		b.w, b.m = New(n), newModel(n)
		if r.Intn(4) > 0 {
			b.step(api.Step{Fn: api.SWell, N: 15})
		}
		for range 300 {
			b.step(drawStep(r.Intn, n, b.w.Net().Len()))
		}
	}
	t.Log(b.answers)
	// The scripts are such that each answer comes often.
	for fn, errs := range map[int][]api.Errno{
		0: {api.ErrForm}, 10: {api.ErrForm},
		api.SReal: {api.OK}, api.STick: {api.OK, api.ErrNone, api.ErrDown},
		api.SSend: {api.OK, api.ErrRange}, api.SDrop: {api.OK, api.ErrRange}, api.SAgain: {api.OK, api.ErrRange},
		api.SCrash: {api.OK, api.ErrNone, api.ErrDown}, api.SStart: {api.OK, api.ErrNone, api.ErrBusy},
		api.SCast: {api.OK, api.ErrNone, api.ErrDown, api.ErrNoView, api.ErrForm, api.ErrBusy},
		api.SWell: {api.OK, api.ErrRange},
	} {
		for _, err := range errs {
			if b.answers[fn][err] < 5 {
				t.Errorf("a step %d was answered %v %d times", fn, err, b.answers[fn][err])
			}
		}
	}
}

// pickOf draws from bytes; behind them it is 0.
func pickOf(steps *[]byte) func(n int) int {
	return func(n int) int {
		if len(*steps) == 0 {
			return 0
		}
		b := int((*steps)[0])
		*steps = (*steps)[1:]
		return b % n
	}
}

func FuzzWorld(f *testing.F) {
	f.Add(3, []byte{1, 1, 1, 1, 9, 9, 9, 20, 20, 3, 4})
	f.Add(7, []byte{22, 1, 0, 9, 9, 4, 4, 4, 4, 3, 17, 2, 8, 90})
	f.Fuzz(func(t *testing.T, n int, steps []byte) {
		if n < 3 || n > 7 || len(steps) > 2000 {
			t.Skip()
		}
		b := &beside{t: t, w: New(n), m: newModel(n), answers: map[int]map[api.Errno]int{}}
		b.step(api.Step{Fn: api.SWell, N: 15})
		pick := pickOf(&steps)
		for len(steps) > 0 {
			b.step(drawStep(pick, n, b.w.Net().Len()))
		}
	})
}

func FuzzTheWhole(f *testing.F) {
	f.Add(3, []byte{1, 1, 1, 1, 9, 9, 9, 20, 20, 3, 4})
	f.Add(7, []byte{22, 1, 0, 9, 9, 4, 4, 4, 4, 3, 17, 2, 8, 90})
	f.Fuzz(func(t *testing.T, n int, steps []byte) {
		if n < 3 || n > 7 || len(steps) > 4000 {
			t.Skip()
		}
		pick := pickOf(&steps)
		p := newWhole(t, n, pick)
		for range 20 {
			p.roundOf(team.Team(1<<n-1), false)
		}
		k := weightsOf(pick)
		for len(steps) > 0 {
			p.random(k, 3)
		}
		p.inTheEnd()
	})
}
