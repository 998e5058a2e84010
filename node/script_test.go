package node

import (
	"fmt"
	"math/rand"
	"slices"
	"testing"

	"curfew/api"
	"curfew/crc"
	"curfew/num"
	"curfew/stable"
	"curfew/wire"
)

// diskOf gives one with such numbers.
func diskOf(t *testing.T, boot, view int64) *stable.Disk {
	t.Helper()
	d, err := stable.Read(crc.Seal(num.Put(num.Put(nil, boot), view)))
	if err != api.OK {
		t.Fatalf("no disk of %d, %d", boot, view)
	}
	return d
}

// pair is a process beside its model.
type pair struct {
	t *testing.T
	x *Node
	m *model
	d *stable.Disk
}

func newPair(t *testing.T, id, n int, d *stable.Disk) *pair {
	t.Helper()
	x, err := Make(id, n, d)
	if err != api.OK || x == nil {
		t.Fatalf("Make(%d, %d): %v, %v", id, n, x, err)
	}
	p := &pair{t, x, newModel(id, n, d.Boot(), d.View()), d}
	p.check("Make")
	return p
}

func eqMsgs(a, b []api.Msg) bool { return slices.EqualFunc(a, b, wire.Eq) }

// check holds all that a process tells against the model.
func (p *pair) check(after string) {
	p.t.Helper()
	x, m := p.x, p.m
	wantView, wantMembers := int64(0), 0
	if m.in() {
		wantView, wantMembers = m.last, m.members
	}
	view, members, in := x.View()
	fail := func(what string, got, want any) {
		p.t.Helper()
		p.t.Fatalf("process %d of %d, behind %s: %s %v; want %v", m.id, m.n, after, what, got, want)
	}
	switch {
	case view != wantView || int(members) != wantMembers || in != m.in():
		fail("View", fmt.Sprint(view, members, in), fmt.Sprint(wantView, wantMembers, m.in()))
	case x.Good() != m.good():
		fail("Good", x.Good(), m.good())
	case !slices.Equal(x.Told(), m.told):
		fail("Told", x.Told(), m.told)
	case !slices.Equal(x.Log(), m.log):
		fail("Log", x.Log(), m.log)
	case x.Commit() != m.commit:
		fail("Commit", x.Commit(), m.commit)
	case x.Clock() != m.clock:
		fail("Clock", x.Clock(), m.clock)
	case x.Boot() != m.boot:
		fail("Boot", x.Boot(), m.boot)
	case x.Knows() != m.knows:
		fail("Knows", x.Knows(), m.knows)
	case x.Last() != m.last:
		fail("Last", x.Last(), m.last)
	case x.Waits() != len(m.waits):
		fail("Waits", x.Waits(), len(m.waits))
	case p.d.View() != m.promise || p.d.Boot() != m.boot:
		fail("disk", fmt.Sprint(p.d.Boot(), p.d.View()), fmt.Sprint(m.boot, m.promise))
	case !slices.Equal(x.Table().Names(), m.names()):
		fail("Table", x.Table().Names(), m.names())
	}
	for _, name := range m.names() {
		if got, ok := x.Table().Get(name); !ok || got != m.words[name].s {
			fail("Table: "+name, got, m.words[name].s)
		}
	}
}

func (p *pair) tick() []api.Msg {
	p.t.Helper()
	return p.want("Tick", p.x.Tick(), p.m.tick())
}

// hear hands over what x is as bytes.
func (p *pair) hear(x api.Msg) []api.Msg {
	p.t.Helper()
	b := wire.Encode(x)
	if b == nil {
		p.t.Fatalf("no message: %v", x)
	}
	return p.want(fmt.Sprint("Hear of ", x), p.x.Hear(b), p.m.hear(&x))
}

func (p *pair) hearBytes(b []byte) []api.Msg {
	p.t.Helper()
	if x, err := wire.Decode(b); err == api.OK {
		return p.want(fmt.Sprint("Hear of ", x), p.x.Hear(b), p.m.hear(&x))
	}
	return p.want(fmt.Sprint("Hear of ", b), p.x.Hear(b), p.m.hear(nil))
}

func (p *pair) cast(order, level int, data string) api.Errno {
	p.t.Helper()
	got, want := p.x.Cast(order, level, data), p.m.cast(order, level, data)
	if got != want {
		p.t.Fatalf("process %d: Cast(%d, %d, %q): %v; want %v", p.m.id, order, level, data, got, want)
	}
	p.check("Cast")
	return got
}

func (p *pair) want(after string, got, want []api.Msg) []api.Msg {
	p.t.Helper()
	if !eqMsgs(got, want) {
		p.t.Fatalf("process %d of %d, %s: %v; want %v", p.m.id, p.m.n, after, got, want)
	}
	p.check(after)
	return got
}

// maker makes what comes in a random script.
type maker struct {
	m      *model
	pick   func(n int) int
	temper int
}

// What a script is bent on.
const (
	anything = iota
	leading  // others' views are seldom
	flooding // likewise, and most messages are questions
	tempers
)

func (k maker) often() bool { return k.pick(6) > 0 }

func (k maker) other() int {
	id := 1 + k.pick(k.m.n-1)
	if id >= k.m.id {
		id++
	}
	return id
}

// anyone is another one, seldom one who is none of the processes.
func (k maker) anyone() int {
	if k.pick(30) == 0 {
		if id := 1 + k.pick(7); id != k.m.id {
			return id
		}
	}
	return k.other()
}

// kind is one that goes with what the process does just now, mostly.
func (k maker) kind() int {
	m := k.m
	l := []int{1, 2, 3, 4, 5, 6, 7, 8, 9, 10, 11, 12, 13}
	if k.temper != anything && k.pick(20) > 0 {
		l = []int{2, 3, 6, 7, 8, 10}
	}
	switch {
	case k.pick(5) == 0:
	case !m.knows:
		l = []int{11}
	case m.hasVotes():
		l = []int{2, 3, 3, 3, 3, 3}
	case m.decides() && k.temper == flooding:
		l = []int{8, 8, 8, 8, 8, 8, 8, 8, 8, 8, 8, 8, 8, 8, 8, 6}
	case m.decides():
		l = []int{6, 6, 6, 6, 7, 7, 8, 8, 8, 10}
	case m.in():
		l = []int{5, 5, 5, 5, 5, 9, 9, 9, 4}
	default:
		l = []int{1, 4, 4}
	}
	return l[k.pick(len(l))]
}

func (k maker) view(kind int) int64 {
	m := k.m
	l := []int64{m.last, m.promise, m.promise + 1, m.promise + int64(k.pick(2*m.n)), m.last + 1, m.promise - 1, int64(k.pick(20)), greatest}
	switch {
	case k.pick(30) == 0:
	case kind == api.MVote:
		return m.promise
	case kind == api.MAppend, kind == api.MAck, kind == api.MAsk, kind == api.MFresh:
		l = []int64{m.last, m.last, m.last, m.last, m.last, m.promise}
	case kind == api.MDeny:
		l = l[1:4]
	default:
		l = l[:6]
	}
	return min(max(l[k.pick(len(l))], 0), greatest)
}

// from is who decides the view, where such a message is his, mostly.
func (k maker) from(kind int, view int64) int {
	id := decider(view, k.m.n)
	if id != 0 && id != k.m.id && slices.Contains([]int{1, 4, 5, 9, 11}, kind) && k.often() {
		return id
	}
	return k.anyone()
}

func (k maker) members(from int) int {
	switch k.pick(4) {
	case 0:
		return k.m.members
	case 1:
		return k.pick(128)
	case 2:
		return k.pick(1<<k.m.n) | 1<<(from-1) | 1<<(k.m.id-1)
	}
	return 1<<k.m.n - 1
}

func (k maker) entry(from int) api.Entry {
	data := []string{"a=1", "b=2", "a=", "c=x=y", "=1", "none", "", "a=22", "d==", "sixteen=letters!"}
	if k.often() {
		from = k.m.id
	}
	if k.often() {
		from = 1 + k.pick(k.m.n)
	}
	return api.Entry{From: from, Boot: int64(1 + k.pick(2)), Seq: int64(1 + k.pick(12)), Order: k.pick(3), Level: k.pick(3), Stamp: int64(k.pick(10)), Data: data[k.pick(len(data))]}
}

// run gives entries that are a log, mostly, if they stand behind those.
func (k maker) run(l []api.Entry, size int) []api.Entry {
	var made []api.Entry
	stamp := int64(0)
	if len(l) > 0 {
		stamp = l[len(l)-1].Stamp
	}
	for range size {
		e := k.entry(1)
		if k.pick(20) > 0 {
			if hasSame(l, e) || hasSame(made, e) {
				continue
			}
			stamp += int64(k.pick(3))
			e.Stamp = min(stamp, greatest)
		}
		made = append(made, e)
	}
	return made
}

func (k maker) entries(at int) []api.Entry {
	m := k.m
	at = min(at, len(m.log))
	switch k.pick(5) {
	case 0:
		return slices.Clone(m.log[at:])
	case 1:
		return slices.Clone(m.log[at:][:k.pick(len(m.log[at:])+1)])
	case 2:
		return k.run(nil, k.pick(7))
	case 3:
		if k.pick(10) == 0 {
			l := slices.Concat(m.log[at:], k.run(m.log, 60))
			return l[:min(len(l), 60-k.pick(2))]
		}
	}
	l := slices.Concat(m.log[at:], k.run(m.log, k.pick(4)))
	return l[:min(len(l), 60)]
}

func (k maker) num(kind int) int64 {
	m := k.m
	switch {
	case k.pick(20) == 0:
		return int64(k.pick(90))
	case kind == api.MState:
		return m.boot
	case kind == api.MAck:
		return max(m.probes-int64(k.pick(4))+1, 0)
	case kind == api.MFresh:
		if k.pick(4) == 0 {
			return max(m.nums-int64(k.pick(70)), 0)
		}
		return max(m.nums-int64(k.pick(3)), 0)
	}
	return int64(k.pick(90))
}

func (k maker) msg() api.Msg {
	m := k.m
	kind := k.kind()
	view := k.view(kind)
	from := k.from(kind, view)
	x := api.Msg{Kind: kind, From: from, To: m.id, Boot: max(1, m.boots[from]), View: view, Members: k.members(from), Num: min(k.num(kind), greatest), Clock: int64(k.pick(50)), Yes: k.often()}
	if k.pick(40) == 0 {
		x.Boot = max(1, x.Boot+int64(k.pick(3))-1)
	}
	if k.pick(60) == 0 {
		x.To = k.other()
	}
	if kind == api.MVote && view > 0 {
		x.Last = max(0, view-1-int64(k.pick(4)))
		if k.pick(12) == 0 {
			x.Last = min(view+int64(k.pick(2)), greatest)
		}
	}
	if kind == api.MAppend || kind == api.MAck {
		x.At = min(max(0, len(m.log)-k.pick(4)+k.pick(2)), 60)
		if k.pick(20) == 0 {
			x.At = k.pick(61)
		}
	}
	at := 0
	if kind == api.MAppend {
		at = x.At
	}
	x.Entries = k.entries(at)
	if kind == api.MData {
		for range k.pick(4) {
			x.Entries = append(x.Entries, k.entry(from))
		}
		x.Entries = x.Entries[:min(len(x.Entries), 60)]
		for i := range x.Entries {
			if k.often() {
				x.Entries[i].From = from
			}
		}
	}
	x.Commit = k.pick(len(x.Entries) + 1)
	if k.pick(20) == 0 {
		x.Commit = k.pick(61)
	}
	if x.From == x.To {
		x.To = m.id
	}
	return x
}

func (k maker) data() string {
	l := []string{"a=1", "b=2", "a=", "seventeen letters", "x"}
	return l[k.pick(len(l))]
}

// script holds a process against the model at each step, and counts what came.
func script(t *testing.T, pick func(n int) int, steps int, came map[string]int) {
	t.Helper()
	n := 3 + pick(5)
	boots := []int64{0, 0, 0, 0, 0, 1, 2, 1<<20 - 2, greatest - 1}
	views := []int64{0, 0, 0, 0, 1, 5, 17, greatest - 90, greatest - 9, greatest - 1, greatest}
	p := newPair(t, 1+pick(n), n, diskOf(t, boots[pick(len(boots))], views[pick(len(views))]))
	k := maker{p.m, pick, pick(tempers)}
	for range steps {
		what := pick(10)
		if k.temper != anything && !p.m.decides() && !p.m.hasVotes() {
			what = 1 + what%4
		}
		switch what {
		case 0:
			came[fmt.Sprint("cast ", p.cast(pick(4)-pick(2), pick(4)-pick(2), k.data()))]++
		case 1, 2, 3:
			p.count(came, "tick", p.tick())
		default:
			x := k.msg()
			ms := p.hear(x)
			if !p.m.wasNothing {
				came[fmt.Sprint("heard ", x.Kind)]++
			}
			p.count(came, fmt.Sprint(x.Kind), ms)
		}
	}
}

func (p *pair) count(came map[string]int, what string, ms []api.Msg) {
	for _, m := range ms {
		came[fmt.Sprint(what, ">", m.Kind)]++
	}
	for name, ok := range map[string]bool{"good": p.m.good(), "decides": p.m.decides(), "in": p.m.in(), "does not know": !p.m.knows, "full": len(p.m.log) == 60,
		"64 questions": len(p.m.questions) >= 64, "good decider": p.m.good() && p.m.decides(), "timed": len(p.m.told) > 0 && p.m.told[len(p.m.told)-1].E.Order == api.Timed} {
		if ok {
			came[name]++
		}
	}
}

func TestP25Scripts(t *testing.T) {
	came := map[string]int{}
	for seed := range int64(600) {
		script(t, rand.New(rand.NewSource(seed)).Intn, 250, came)
	}
	// The scripts are such that all that can happen comes often.
	for _, what := range []string{
		"cast 0", "cast 1", "cast 6", "cast 9", "tick>1", "tick>10", "tick>4", "tick>5", "tick>7", "tick>8",
		"1>2", "1>3", "4>6", "5>6", "6>9", "10>11", "11>6", "12>13",
		"heard 1", "heard 2", "heard 3", "heard 4", "heard 5", "heard 6", "heard 7", "heard 8", "heard 9", "heard 10", "heard 11", "heard 12",
		"in", "decides", "good", "good decider", "does not know", "full", "64 questions", "timed",
	} {
		if came[what] < 50 {
			t.Errorf("%d times: %s", came[what], what)
		}
	}
}

func FuzzNode(f *testing.F) {
	f.Add([]byte{})
	f.Add([]byte{4, 2, 1, 2, 3, 4, 5, 6, 7, 8, 9, 10, 11, 12, 13, 14, 15, 16})
	f.Add([]byte("the quick brown fox jumps over the lazy dog"))
	f.Fuzz(func(t *testing.T, b []byte) {
		pick := func(n int) int {
			if len(b) == 0 {
				return 0
			}
			c := int(b[0])
			b = b[1:]
			return c % n
		}
		script(t, pick, min(400, len(b)/5+1), map[string]int{})
	})
}
