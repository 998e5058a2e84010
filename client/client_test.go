package client

import (
	"fmt"
	"math"
	"slices"
	"strings"
	"testing"

	"curfew/api"
	"curfew/node"
	"curfew/stable"
	"curfew/wire"
)

// asker is a process of three, who asks it, and what it takes to let it hear things.
type asker struct {
	t *testing.T
	x *node.Node
	c *Client
}

func start(t *testing.T, id int, d *stable.Disk) *asker {
	t.Helper()
	x, err := node.Make(id, 3, d)
	if err != api.OK {
		t.Fatalf("Make(%d): %v", id, err)
	}
	return &asker{t, x, New(x)}
}

// hear lets it hear a message of the process 1 or 3, at that one's first start.
func (a *asker) hear(id int, m api.Msg) []api.Msg {
	a.t.Helper()
	m.To, m.Boot = id, 1
	b := wire.Encode(m)
	if b == nil {
		a.t.Fatalf("no message: %v", m)
	}
	return a.x.Hear(b)
}

// member gives the process 2 in the view 1 of all three, which 1 decides.
func member(t *testing.T, l []api.Entry, commit int) *asker {
	t.Helper()
	a := start(t, 2, &stable.Disk{})
	a.installs(1, l, commit)
	return a
}

// installs makes a view of 1's that of all three.
func (a *asker) installs(view int64, l []api.Entry, commit int) {
	a.t.Helper()
	a.hear(2, api.Msg{Kind: api.MInstall, From: 1, View: view, Members: 7, Entries: l, Commit: commit})
	if got, _, in := a.x.View(); got != view || !in {
		a.t.Fatalf("it is in %d, %v; want %d", got, in, view)
	}
}

// appends is a word of the decider of the view 1.
func (a *asker) appends(at int, l []api.Entry, commit int) {
	a.t.Helper()
	a.hear(2, api.Msg{Kind: api.MAppend, From: 1, View: 1, At: at, Entries: l, Commit: commit})
}

// leaves makes it promise a view of 3's.
func (a *asker) leaves() {
	a.t.Helper()
	a.hear(2, api.Msg{Kind: api.MPropose, From: 3, View: 3})
}

// fresh lets a tick go by, and answers the question that it asks in it.
func (a *asker) fresh(commit int) {
	a.t.Helper()
	view, _, _ := a.x.View()
	for _, m := range a.x.Tick() {
		if m.Kind == api.MAsk {
			a.hear(2, api.Msg{Kind: api.MFresh, From: 1, View: view, Num: m.Num, Commit: commit})
			return
		}
	}
	a.t.Fatal("it asks nothing")
}

func (a *asker) wantGet(name, want string, wantErr api.Errno) {
	a.t.Helper()
	if got, err := a.c.Get(name); got != want || err != wantErr {
		a.t.Errorf("Get(%q): %q, %v; want %q, %v", name, got, err, want, wantErr)
	}
}

func (a *asker) wantStatus(want Status) {
	a.t.Helper()
	if got := a.c.Status(); got != want {
		a.t.Errorf("Status: %v; want %v", got, want)
	}
}

func wantPoll(t *testing.T, c *Client, want ...api.Told) {
	t.Helper()
	if got := c.Poll(); !slices.Equal(got, want) {
		t.Errorf("Poll: %v; want %v", got, want)
	}
}

func wantCast(t *testing.T, c *Client, order, level int, data string, want api.Errno) {
	t.Helper()
	if got := c.Cast(order, level, data); got != want {
		t.Errorf("Cast(%d, %d, %q): %v; want %v", order, level, data, got, want)
	}
}

func wantLost(t *testing.T, c *Client, want int64) {
	t.Helper()
	if got := c.Lost(); got != want {
		t.Errorf("Lost: %d; want %d", got, want)
	}
}

// e gives an entry of 1, with the Seq that is told.
func e(seq int64, order, level int, data string) api.Entry {
	return api.Entry{From: 1, Boot: 1, Seq: seq, Order: order, Level: level, Data: data}
}

var wrongNumbers = []int{math.MinInt, math.MinInt + 1, -1 << 32, -256, -2, -1, 3, 4, 64, 256, 1 << 32, 1<<32 + 1, math.MaxInt}

func TestP26_1CastIsTheProcesss(t *testing.T) {
	for order := api.Any; order <= api.Timed; order++ {
		for level := api.Weak; level <= api.Strict; level++ {
			for _, data := range []string{"", "a=b", "\x00\xff", strings.Repeat("x", 16)} {
				a := member(t, nil, 0)
				wantCast(t, a.c, order, level, data, api.OK)
				ms := a.x.Tick()
				if len(ms) != 2 || ms[1].Kind != api.MData || !slices.Equal(ms[1].Entries, []api.Entry{{From: 2, Boot: 1, Seq: 1, Order: order, Level: level, Data: data}}) {
					t.Errorf("Cast(%d, %d, %q): it sends %v", order, level, data, ms)
				}
				wantLost(t, a.c, 0)
			}
		}
	}
}

func TestP26_1CastThatIsRefused(t *testing.T) {
	a := start(t, 2, &stable.Disk{})
	wantCast(t, a.c, api.Total, api.Strong, "a=b", api.ErrNoView)
	wantCast(t, a.c, 9, 9, strings.Repeat("x", 17), api.ErrNoView)
	wantLost(t, a.c, 2)
	a.installs(1, nil, 0)
	lost := int64(2)
	refuse := func(order, level int, data string) {
		t.Helper()
		wantCast(t, a.c, order, level, data, api.ErrForm)
		lost++
		wantLost(t, a.c, lost)
	}
	for _, n := range wrongNumbers {
		refuse(n, api.Weak, "")
		refuse(api.Any, n, "")
		refuse(n, n, "a=b")
	}
	refuse(api.Any, api.Weak, strings.Repeat("x", 17))
	refuse(api.Any, api.Weak, strings.Repeat("x", 1<<20))
	for range api.MaxWait {
		wantCast(t, a.c, api.Any, api.Weak, "x", api.OK)
	}
	wantLost(t, a.c, lost)
	for i := range int64(3) {
		wantCast(t, a.c, api.Any, api.Weak, "x", api.ErrBusy)
		wantLost(t, a.c, lost+1+i)
	}
	a.leaves()
	wantCast(t, a.c, api.Any, api.Weak, "x", api.ErrNoView)
	wantLost(t, a.c, lost+4)
}

// Nothing but a Cast is counted, whatever else is refused.
func TestP26_1LostCountsCastsAlone(t *testing.T) {
	a := start(t, 2, &stable.Disk{})
	for range 3 {
		a.wantGet("a", "", api.ErrNoView)
		wantPoll(t, a.c)
		a.c.Status()
		wantLost(t, a.c, 0)
	}
	// What the process itself refuses to somebody else is nobody's here.
	a.x.Cast(9, 9, "")
	wantLost(t, a.c, 0)
	down := New(nil)
	down.Get("a")
	wantLost(t, down, 0)
}

func TestP26_1LostIsNoNarrowNumber(t *testing.T) {
	const many = 1<<16 + 3
	for _, c := range []*Client{New(nil), start(t, 1, &stable.Disk{}).c} {
		for range many {
			c.Cast(0, 0, "")
		}
		wantLost(t, c, many)
	}
}

func TestP26_1Poll(t *testing.T) {
	l := []api.Entry{e(1, api.Any, api.Weak, "x"), e(2, api.Any, api.Strong, "y"), e(3, api.Any, api.Weak, "z"), e(4, api.Total, api.Strong, "a=1")}
	a := start(t, 2, &stable.Disk{})
	wantPoll(t, a.c)
	a.installs(1, l, 0)
	wantPoll(t, a.c, api.Told{At: 1, E: l[0]}, api.Told{At: 3, E: l[2]})
	wantPoll(t, a.c)
	a.appends(0, l, 2)
	a.appends(0, l, 4)
	wantPoll(t, a.c, api.Told{At: 2, E: l[1]}, api.Told{At: 4, E: l[3]})
	wantPoll(t, a.c)
	// It answers when the process is in no view, too; and what was told is told no more in another view.
	more := append(slices.Clone(l[2:]), e(5, api.Any, api.Weak, "w"))
	a.appends(4, more[2:], 4)
	a.leaves()
	wantPoll(t, a.c, api.Told{At: 5, E: more[2]})
	another := e(6, api.Any, api.Weak, "v")
	a.installs(4, []api.Entry{another, more[2], l[0]}, 0)
	wantPoll(t, a.c, api.Told{At: 1, E: another})
	wantPoll(t, a.c)
}

// A Timed one is told in a Tick.
func TestP26_1PollOfATick(t *testing.T) {
	l := []api.Entry{e(1, api.Timed, api.Weak, "")}
	a := member(t, l, 0)
	for range 2 {
		a.x.Tick()
		wantPoll(t, a.c)
	}
	a.x.Tick()
	wantPoll(t, a.c, api.Told{At: 1, E: l[0]})
	a.x.Tick()
	wantPoll(t, a.c)
}

// Each who asks polls for himself, all that was told ahead of his first asking too.
func TestP26_1PollOfSeveral(t *testing.T) {
	l := []api.Entry{e(1, api.Any, api.Weak, "x"), e(2, api.Any, api.Weak, "y"), e(3, api.Any, api.Strong, "z")}
	told := []api.Told{{At: 1, E: l[0]}, {At: 2, E: l[1]}, {At: 3, E: l[2]}}
	a := member(t, l[:1], 0)
	wantPoll(t, a.c, told[0])
	late := New(a.x)
	a.appends(1, l[1:], 0)
	wantPoll(t, a.c, told[1])
	wantPoll(t, late, told[:2]...)
	a.appends(3, nil, 3)
	wantPoll(t, late, told[2])
	wantPoll(t, New(a.x), told...)
	wantPoll(t, a.c, told[2])
	wantCast(t, a.c, 9, 9, "", api.ErrForm)
	wantLost(t, late, 0)
}

func TestP26_1StatusOfAMember(t *testing.T) {
	l := []api.Entry{e(1, api.Total, api.Strong, "a=1"), e(2, api.Any, api.Weak, "x"), e(3, api.Total, api.Strong, "b=1")}
	a := start(t, 2, &stable.Disk{})
	a.wantStatus(Status{Up: true})
	a.installs(1, l, 1)
	a.wantStatus(Status{Up: true, In: true, View: 1, Len: 3, Commit: 1, Told: 2})
	a.fresh(1)
	a.wantStatus(Status{Up: true, In: true, Good: true, View: 1, Len: 3, Commit: 1, Told: 2})
	wantCast(t, a.c, api.Any, api.Weak, "", api.OK)
	wantCast(t, a.c, api.Any, api.Weak, "", api.OK)
	// How many it told hangs not on Poll.
	a.c.Poll()
	a.wantStatus(Status{Up: true, In: true, Good: true, View: 1, Len: 3, Commit: 1, Told: 2, Waits: 2})
	a.appends(3, []api.Entry{{From: 2, Boot: 1, Seq: 1}}, 4)
	a.wantStatus(Status{Up: true, In: true, Good: true, View: 1, Len: 4, Commit: 4, Told: 4, Waits: 1})
	// It leaves the view: what it has of it stays.
	a.leaves()
	a.wantStatus(Status{Up: true, Len: 4, Commit: 4, Told: 4, Waits: 1})
	a.installs(4, l[:2], 0)
	a.wantStatus(Status{Up: true, In: true, View: 4, Len: 2, Commit: 2, Told: 4, Waits: 1})
}

// One that came back is up, and no more, till it knows.
func TestP26_1OfOneThatCameBack(t *testing.T) {
	d := &stable.Disk{}
	start(t, 2, d)
	a := start(t, 2, d)
	for range 3 {
		a.wantStatus(Status{Up: true})
		a.wantGet("a", "", api.ErrNoView)
		wantCast(t, a.c, api.Any, api.Weak, "", api.ErrNoView)
		wantPoll(t, a.c)
		a.x.Tick()
	}
	wantLost(t, a.c, 3)
	l := []api.Entry{e(1, api.Total, api.Strong, "a=1")}
	b := wire.Encode(api.Msg{Kind: api.MState, From: 1, To: 2, Boot: 1, View: 1, Members: 7, Entries: l, Commit: 1, Num: 2, Yes: true})
	a.x.Hear(b)
	a.wantStatus(Status{Up: true, In: true, View: 1, Len: 1, Commit: 1, Told: 1})
	a.wantGet("a", "", api.ErrOld)
	a.fresh(1)
	a.wantGet("a", "1", api.OK)
	wantPoll(t, a.c, api.Told{At: 1, E: l[0]})
	wantLost(t, a.c, 3)
}

func TestP26_1Get(t *testing.T) {
	l := []api.Entry{
		e(1, api.Total, api.Strong, "a=1"), e(2, api.Total, api.Strict, "b==x"), e(3, api.Total, api.Weak, "c=1"), e(4, api.Any, api.Strong, "d=1"),
		e(5, api.Total, api.Strong, "plain"), e(6, api.Total, api.Strong, "\xff=\x00"), e(7, api.Total, api.Strong, "a=2"), e(8, api.Total, api.Strong, "b="),
		e(9, api.Total, api.Strong, "=1"),
	}
	a := member(t, l, 6)
	a.fresh(6)
	a.wantGet("a", "1", api.OK)
	a.wantGet("b", "=x", api.OK)
	a.wantGet("\xff", "\x00", api.OK)
	for _, name := range []string{"", "=", "a=", "a=1", "A", "aa", "1", "b=", "c", "d", "plain", "\x00", "\xff\xff", strings.Repeat("a", 1<<20)} {
		a.wantGet(name, "", api.ErrNone)
	}
	a.appends(9, nil, 7)
	a.wantGet("a", "2", api.OK)
	a.wantGet("b", "=x", api.OK)
	a.appends(9, nil, 9)
	a.wantGet("a", "2", api.OK)
	a.wantGet("b", "", api.ErrNone)
	a.wantGet("", "", api.ErrNone)
}

// What the table says is nobody's who may be behind; of the errors the first one counts.
func TestP26_1GetOfTheErrors(t *testing.T) {
	both := func(a *asker, want api.Errno) {
		t.Helper()
		a.wantGet("a", "", want)
		a.wantGet("none", "", want)
	}
	l := []api.Entry{e(1, api.Total, api.Strong, "a=1"), e(2, api.Any, api.Weak, "")}
	a := start(t, 2, &stable.Disk{})
	both(a, api.ErrNoView)
	a.installs(1, l, 1)
	both(a, api.ErrOld)
	// Elsewhere more is committed.
	a.fresh(2)
	both(a, api.ErrOld)
	a.appends(2, nil, 2)
	a.wantGet("a", "1", api.OK)
	a.wantGet("none", "", api.ErrNone)
	// The proof holds for less than 12 ticks.
	for range 12 {
		a.x.Tick()
		a.appends(2, nil, 2)
	}
	both(a, api.ErrOld)
	a.fresh(2)
	a.wantGet("a", "1", api.OK)
	for range 11 {
		a.wantGet("a", "1", api.OK)
		a.x.Tick()
		a.appends(2, nil, 2)
	}
	a.wantGet("a", "1", api.OK)
	a.x.Tick()
	both(a, api.ErrOld)
	a.fresh(2)
	a.wantGet("a", "1", api.OK)
	a.leaves()
	both(a, api.ErrNoView)
	a.installs(4, l, 1)
	both(a, api.ErrOld)
}

func TestP26_1WithoutAProcess(t *testing.T) {
	var none *Client
	for i, c := range []*Client{none, New(nil), {}} {
		lost := int64(0)
		for _, order := range append(wrongNumbers, 0, 1, 2) {
			for _, data := range []string{"", "a=b", strings.Repeat("x", 17)} {
				wantCast(t, c, order, api.Weak, data, api.ErrDown)
				wantCast(t, c, api.Any, order, data, api.ErrDown)
				lost += 2
			}
		}
		if c == nil {
			lost = 0
		}
		wantLost(t, c, lost)
		for _, name := range []string{"", "a", strings.Repeat("x", 1<<20)} {
			if got, err := c.Get(name); got != "" || err != api.ErrDown {
				t.Errorf("%d: Get: %q, %v", i, got, err)
			}
		}
		wantPoll(t, c)
		if got := c.Status(); got != (Status{}) {
			t.Errorf("%d: Status: %v", i, got)
		}
		wantLost(t, c, lost)
	}
	if New(nil) == nil {
		t.Error("New(nil) can't count")
	}
}

// A zero process is one that knows nothing.
func TestP0_1ZeroProcess(t *testing.T) {
	a := &asker{t, &node.Node{}, New(&node.Node{})}
	a.wantStatus(Status{Up: true})
	a.wantGet("a", "", api.ErrNoView)
	wantCast(t, a.c, 0, 0, "", api.ErrNoView)
	wantPoll(t, a.c)
	wantLost(t, a.c, 1)
}

// Whoever writes into what Poll answered, or into its spare room, changes nothing else.
func TestP0_3PollIsNew(t *testing.T) {
	var l []api.Entry
	var told []api.Told
	for i := range int64(20) {
		l = append(l, e(i+1, api.Any, api.Weak, fmt.Sprint(i)))
		told = append(told, api.Told{At: int(i) + 1, E: l[i]})
	}
	for cut := range 20 {
		a := member(t, l[:cut], 0)
		other := New(a.x)
		var polls [][]api.Told
		write := func() {
			for _, p := range polls {
				clear(p[:cap(p)])
			}
		}
		polls = append(polls, a.c.Poll())
		write()
		a.appends(cut, l[cut:], 0)
		write()
		p := a.c.Poll()
		if !slices.Equal(p, told[cut:]) {
			t.Errorf("cut at %d, Poll: %v", cut, p)
		}
		write()
		if !slices.Equal(p, told[cut:]) {
			t.Errorf("cut at %d: elder answers share with %v", cut, p)
		}
		polls = append(polls, p)
		write()
		wantPoll(t, other, told...)
		if !slices.Equal(a.x.Told(), told) {
			t.Errorf("cut at %d: the process told %v", cut, a.x.Told())
		}
		wantPoll(t, a.c)
	}
}

// Asking changes nothing of the process: not what it says, nor what it does.
func TestP0_5AskingChangesNothing(t *testing.T) {
	l := []api.Entry{e(1, api.Total, api.Strong, "a=1"), e(2, api.Any, api.Weak, "")}
	a, b := member(t, l, 1), member(t, l, 1)
	for i := range 30 {
		if i == 5 {
			a.fresh(1)
			b.fresh(1)
		}
		for range 3 {
			a.c.Poll()
			a.c.Status()
			a.c.Get("a")
			a.c.Lost()
			a.c.Cast(9, 9, "")
		}
		was := a.c.Status()
		if again := a.c.Status(); again != was || was != b.c.Status() {
			t.Fatalf("tick %d: %v, %v, %v", i, was, again, b.c.Status())
		}
		ma, mb := a.x.Tick(), b.x.Tick()
		if !slices.EqualFunc(ma, mb, wire.Eq) {
			t.Fatalf("tick %d: %v; want %v", i, ma, mb)
		}
	}
	wantPoll(t, a.c)
	if got := b.c.Poll(); len(got) != 2 {
		t.Errorf("who asks the one is told what the other was not: %v", got)
	}
}
