package client

import (
	"fmt"
	"math/rand"
	"slices"
	"testing"

	"curfew/api"
	"curfew/node"
	"curfew/stable"
	"curfew/wire"
)

// world is processes that are asked, with what is on its way between them.
type world struct {
	t     *testing.T
	pick  func(n int) int
	n     int
	disks []*stable.Disk
	up    []*asked // by id; nil: it is down
	away  []api.Msg
	found seen
}

// seen tells how often what happened, so that a test can tell that it held something.
type seen struct {
	gets  map[api.Errno]int
	casts map[api.Errno]int
	told  int
}

// asked is a start of a process, who asks it, and what he must be told by the chapter's words.
type asked struct {
	x      *node.Node
	c      *Client
	lost   int64
	polled []api.Told
}

func newWorld(t *testing.T, n int, pick func(n int) int) *world {
	w := &world{t: t, pick: pick, n: n, found: seen{gets: map[api.Errno]int{}, casts: map[api.Errno]int{}}}
	for id := range n + 1 {
		w.disks = append(w.disks, &stable.Disk{})
		w.up = append(w.up, nil)
		if id > 0 {
			w.start(id)
		}
	}
	return w
}

func (w *world) start(id int) {
	x, err := node.Make(id, w.n, w.disks[id])
	if err != api.OK {
		w.t.Fatalf("Make(%d): %v", id, err)
	}
	w.up[id] = &asked{x: x, c: New(x)}
}

func (w *world) comes(m api.Msg) {
	if w.up[m.To] != nil {
		w.away = append(w.away, w.up[m.To].x.Hear(wire.Encode(m))...)
	}
}

func (w *world) tick(id int) { w.away = append(w.away, w.up[id].x.Tick()...) }

func (w *world) round() {
	for id := 1; id <= w.n; id++ {
		if w.up[id] != nil {
			w.tick(id)
		}
	}
	for k := 0; k < 3000 && len(w.away) > 0; k++ {
		m := w.away[0]
		w.away = w.away[1:]
		w.comes(m)
	}
}

// cast holds an answer against how the process stands, by the chapters' words.
func (w *world) cast(a *asked, order, level int, data string) {
	want := api.OK
	if _, _, in := a.x.View(); !in {
		want = api.ErrNoView
	} else if order < 0 || order > 2 || level < 0 || level > 2 || len(data) > 16 {
		want = api.ErrForm
	} else if a.x.Waits() == 4 {
		want = api.ErrBusy
	}
	if want != api.OK {
		a.lost++
	}
	w.found.casts[want]++
	wantCast(w.t, a.c, order, level, data, want)
}

func (w *world) poll(a *asked) {
	told := a.x.Told()
	l := a.c.Poll()
	w.found.told += len(l)
	a.polled = append(a.polled, l...)
	if !slices.Equal(a.polled, told) {
		w.t.Fatalf("polled: %v; told: %v", a.polled, told)
	}
}

// words are what the table must say, by what was told.
func words(told []api.Told) map[string]string {
	made := map[string]string{}
	for _, x := range told {
		if x.E.Order != api.Total || x.E.Level == api.Weak {
			continue
		}
		for i := 1; i < len(x.E.Data); i++ {
			if x.E.Data[i] == '=' && x.E.Data[0] != '=' {
				made[x.E.Data[:i]] = x.E.Data[i+1:]
				break
			}
		}
	}
	return made
}

func (w *world) get(a *asked, name string) {
	word := words(a.x.Told())[name]
	want := api.OK
	if _, _, in := a.x.View(); !in {
		word, want = "", api.ErrNoView
	} else if !a.x.Good() {
		word, want = "", api.ErrOld
	} else if word == "" {
		want = api.ErrNone
	}
	w.found.gets[want]++
	if got, err := a.c.Get(name); got != word || err != want {
		w.t.Fatalf("Get(%q): %q, %v; want %q, %v", name, got, err, word, want)
	}
}

// look holds what changes nothing.
func (w *world) look(a *asked) {
	want := Status{Up: true, Good: a.x.Good(), Len: len(a.x.Log()), Commit: a.x.Commit(), Told: len(a.x.Told()), Waits: a.x.Waits()}
	want.View, _, want.In = a.x.View()
	if got := a.c.Status(); got != want {
		w.t.Fatalf("Status: %v; want %v", got, want)
	}
	wantLost(w.t, a.c, a.lost)
}

func (w *world) step() {
	id := 1 + w.pick(w.n)
	a := w.up[id]
	switch k := w.pick(40); {
	case k == 0 && a != nil && w.pick(3) == 0:
		w.up[id] = nil
	case k <= 2 && a == nil:
		w.start(id)
	case k <= 5:
		w.round()
	case k <= 14 && a != nil:
		w.tick(id)
	case k <= 28 && len(w.away) > 0:
		i := w.pick(len(w.away))
		m := w.away[i]
		if k > 16 {
			w.away = slices.Delete(w.away, i, i+1)
		}
		if k > 17 {
			w.comes(m)
		}
		if len(w.away) > 400 {
			w.away = w.away[:400]
		}
	case k <= 33 && a != nil:
		w.cast(a, w.pick(4), w.pick(4), fmt.Sprint("kl"[w.pick(2):], "=", "12345678901234"[w.pick(15):]))
	case k <= 36 && a != nil:
		w.poll(a)
	case a != nil:
		w.get(a, "kl"[w.pick(3):])
	}
	for _, a := range w.up {
		if a != nil {
			w.look(a)
		}
	}
}

func TestP26_1Worlds(t *testing.T) {
	sum := seen{gets: map[api.Errno]int{}, casts: map[api.Errno]int{}}
	for seed := range int64(60) {
		r := rand.New(rand.NewSource(seed))
		w := newWorld(t, 3+r.Intn(5), r.Intn)
		for range 800 {
			w.step()
		}
		for _, a := range w.up {
			if a != nil {
				w.poll(a)
			}
		}
		for k, n := range w.found.gets {
			sum.gets[k] += n
		}
		for k, n := range w.found.casts {
			sum.casts[k] += n
		}
		sum.told += w.found.told
	}
	t.Log(sum)
	// The worlds are such that each answer comes often.
	for _, k := range []api.Errno{api.OK, api.ErrNoView, api.ErrOld, api.ErrNone} {
		if sum.gets[k] < 50 {
			t.Errorf("Get answered %v %d times", k, sum.gets[k])
		}
	}
	for _, k := range []api.Errno{api.OK, api.ErrNoView, api.ErrForm, api.ErrBusy} {
		if sum.casts[k] < 50 {
			t.Errorf("Cast answered %v %d times", k, sum.casts[k])
		}
	}
	if sum.told < 500 {
		t.Errorf("%d were polled", sum.told)
	}
}

// What clients cast, all their processes tell, once each, and every table says the same.
func TestP26_1AllIsWell(t *testing.T) {
	for n := 3; n <= 7; n++ {
		w := newWorld(t, n, rand.New(rand.NewSource(int64(n))).Intn)
		for range 40 {
			w.round()
		}
		for id := 1; id <= n; id++ {
			wantCast(t, w.up[id].c, api.Total, api.Strong, fmt.Sprint("k", id, "=", id), api.OK)
			wantCast(t, w.up[id].c, api.Total, api.Strict, fmt.Sprint("last=", id), api.OK)
		}
		for range 20 {
			w.round()
		}
		one := w.up[1].c.Poll()
		if len(one) != 2*n {
			t.Fatalf("of %d: %v", n, one)
		}
		last := words(one)["last"]
		for id := 1; id <= n; id++ {
			c := w.up[id].c
			if id > 1 {
				wantPoll(t, c, one...)
			}
			if s := c.Status(); !s.In || !s.Good || s.Len != 2*n || s.Commit != 2*n || s.Told != 2*n || s.Waits != 0 {
				t.Errorf("of %d, %d: %v", n, id, s)
			}
			for of := 1; of <= n; of++ {
				if got, err := c.Get(fmt.Sprint("k", of)); got != fmt.Sprint(of) || err != api.OK {
					t.Errorf("of %d, %d: Get(k%d): %q, %v", n, id, of, got, err)
				}
			}
			if got, err := c.Get("last"); got != last || err != api.OK {
				t.Errorf("of %d, %d: Get(last): %q, %v; want %q", n, id, got, err, last)
			}
			wantLost(t, c, 0)
		}
	}
}

func FuzzClient(f *testing.F) {
	f.Add(3, []byte{0, 3, 0, 3, 1, 30, 2, 1, 0, 39})
	f.Add(7, []byte{1, 40, 7, 255, 254, 12, 90})
	f.Fuzz(func(t *testing.T, n int, steps []byte) {
		if n < 3 || n > 7 || len(steps) > 4000 {
			t.Skip()
		}
		pick := func(n int) int {
			if len(steps) == 0 {
				return 0
			}
			b := int(steps[0])
			steps = steps[1:]
			return b % n
		}
		w := newWorld(t, n, pick)
		for range 40 {
			w.round()
		}
		for len(steps) > 0 {
			w.step()
		}
		for _, a := range w.up {
			if a != nil {
				w.poll(a)
				w.cast(a, pick(3), pick(3), "k=1")
				w.get(a, "k")
				w.look(a)
			}
		}
	})
}
