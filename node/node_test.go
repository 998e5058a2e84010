package node

import (
	"fmt"
	"math"
	"slices"
	"strings"
	"testing"

	"curfew/api"
	"curfew/stable"
	"curfew/team"
	"curfew/wire"
)

const perStartOfDoc = int64(1048576) // questions of a start

// kinds tells messages: the kind, to whom, of which view.
func kinds(ms []api.Msg) string {
	var l []string
	for _, m := range ms {
		l = append(l, fmt.Sprintf("%d>%d@%d", m.Kind, m.To, m.View))
	}
	return strings.Join(l, " ")
}

func wantKinds(t *testing.T, what string, ms []api.Msg, want string) {
	t.Helper()
	if got := kinds(ms); got != want {
		t.Errorf("%s: %q; want %q", what, got, want)
	}
}

func wantMsgs(t *testing.T, what string, ms []api.Msg, want ...api.Msg) {
	t.Helper()
	if !eqMsgs(ms, want) {
		t.Errorf("%s: %v; want %v", what, ms, want)
	}
}

func first(t *testing.T, id, n int) *pair {
	t.Helper()
	return newPair(t, id, n, &stable.Disk{})
}

// ticks tells what the last one sends.
func (p *pair) ticks(n int) []api.Msg {
	p.t.Helper()
	var ms []api.Msg
	for range n {
		ms = p.tick()
	}
	return ms
}

// e gives an entry of a process.
func e(from int, seq, stamp int64) api.Entry {
	return api.Entry{From: from, Boot: 1, Seq: seq, Order: api.Total, Level: api.Strong, Stamp: stamp, Data: fmt.Sprint("k", from, "=", seq)}
}

// run gives a log of so many entries.
func run(size int) []api.Entry {
	var l []api.Entry
	for i := range size {
		l = append(l, e(2+i%2, int64(100+i), int64(i/2)))
	}
	return l
}

func (p *pair) vote(from int, last int64, l []api.Entry, commit int) {
	p.t.Helper()
	p.hear(api.Msg{Kind: api.MVote, From: from, To: p.m.id, Boot: 1, View: p.d.View(), Last: last, Entries: l, Commit: commit})
}

func (p *pair) ack(from, at int, probe int64) []api.Msg {
	p.t.Helper()
	return p.hear(api.Msg{Kind: api.MAck, From: from, To: p.m.id, Boot: 1, View: p.m.last, At: at, Num: probe})
}

// deciderOf gives the process 1 of n that has just installed the view 1, for which these voted too.
func deciderOf(t *testing.T, n int, voters ...int) *pair {
	t.Helper()
	p := first(t, 1, n)
	p.ticks(10)
	for _, id := range voters {
		p.vote(id, 0, nil, 0)
	}
	p.tick()
	if view, members, in := p.x.View(); view != 1 || !in || members != team.Of(voters...).With(1) {
		t.Fatalf("no decider: %d, %v, %v", view, members.List(), in)
	}
	return p
}

func (p *pair) installs(view int64, members team.Team, l []api.Entry, commit int) []api.Msg {
	p.t.Helper()
	return p.hear(api.Msg{Kind: api.MInstall, From: decider(view, p.m.n), To: p.m.id, Boot: 1, View: view, Members: int(members), Entries: l, Commit: commit})
}

func (p *pair) appends(at int, l []api.Entry, commit int, probe int64) []api.Msg {
	p.t.Helper()
	return p.hear(api.Msg{Kind: api.MAppend, From: decider(p.m.last, p.m.n), To: p.m.id, Boot: 1, View: p.m.last, At: at, Entries: l, Commit: commit, Num: probe})
}

// memberOf gives a process in the view 1 of all n, which another one decides.
func memberOf(t *testing.T, id, n int, l []api.Entry, commit int) *pair {
	t.Helper()
	p := first(t, id, n)
	p.installs(1, 1<<n-1, l, commit)
	if view, _, in := p.x.View(); view != 1 || !in {
		t.Fatal("no member")
	}
	return p
}

// back gives a process at a later start.
func back(t *testing.T, id, n int, boot, promise int64) *pair {
	t.Helper()
	return newPair(t, id, n, diskOf(t, boot-1, promise))
}

func TestP25_1Make(t *testing.T) {
	for n := 3; n <= 7; n++ {
		for id := 1; id <= n; id++ {
			for _, boot := range []int64{1, 2, 3, 1 << 20, 1 << 32, greatest} {
				for _, promise := range []int64{0, 1, 9, greatest} {
					p := back(t, id, n, boot, promise)
					if p.x.Knows() != (boot == 1) || p.x.Boot() != boot || p.x.Clock() != 0 || p.x.Last() != 0 || p.d.View() != promise {
						t.Errorf("Make(%d, %d) at the start %d: %v, %d", id, n, boot, p.x.Knows(), p.x.Boot())
					}
				}
			}
		}
	}
}

func TestP25_1MakeOfWrongOnes(t *testing.T) {
	wantNone := func(id, n int, d *stable.Disk) {
		t.Helper()
		was := d.Boot()
		if x, err := Make(id, n, d); x != nil || err != api.ErrForm || d.Boot() != was {
			t.Errorf("Make(%d, %d): %v, %v, %d", id, n, x, err, d.Boot())
		}
	}
	for _, n := range []int{math.MinInt, -5, -1, 0, 1, 2, 8, 9, 64, 1<<32 + 3, math.MaxInt} {
		for _, id := range []int{math.MinInt, -1, 0, 1, 2, n, n + 1, math.MaxInt} {
			wantNone(id, n, &stable.Disk{})
		}
	}
	for n := 3; n <= 7; n++ {
		for _, id := range []int{math.MinInt, -1, 0, n + 1, 8, 64 + 1, 1<<32 + 1, math.MaxInt} {
			wantNone(id, n, &stable.Disk{})
			wantNone(id, n, nil)
		}
		wantNone(1, n, nil)
		wantNone(n, n, diskOf(t, greatest, 7))
	}
}

// Each start has numbers of its own, so that an answer to an elder one's question is nobody's.
func TestP25_1QuestionsOfAStart(t *testing.T) {
	for _, boot := range []int64{2, 3, 70, 1 << 19} {
		p := back(t, 2, 3, boot, 1)
		p.hear(api.Msg{Kind: api.MState, From: 1, To: 2, Boot: 1, View: 1, Members: 7, Num: boot, Yes: true})
		for i := int64(1); i <= 3; i++ {
			wantMsgs(t, "Tick", p.tick(), api.Msg{Kind: api.MAsk, From: 2, To: 1, Boot: boot, View: 1, Num: boot*perStartOfDoc + i})
		}
		fresh := api.Msg{Kind: api.MFresh, From: 1, To: 2, Boot: 1, View: 1, Num: (boot-1)*perStartOfDoc + 2}
		if p.hear(fresh); p.x.Good() {
			t.Error("Good by an answer to an elder start's question")
		}
		fresh.Num += perStartOfDoc
		if p.hear(fresh); !p.x.Good() {
			t.Error("not Good by an answer to its question")
		}
	}
}

func TestP25_2JoinAsks(t *testing.T) {
	p := back(t, 2, 4, 6, 9)
	for range 40 {
		wantMsgs(t, "Tick", p.tick(), api.Msg{Kind: api.MJoin, From: 2, To: 1, Boot: 6, Num: 6}, api.Msg{Kind: api.MJoin, From: 2, To: 3, Boot: 6, Num: 6}, api.Msg{Kind: api.MJoin, From: 2, To: 4, Boot: 6, Num: 6})
	}
	if p.x.Clock() != 40 || p.x.Knows() {
		t.Errorf("Clock %d, %v", p.x.Clock(), p.x.Knows())
	}
}

func TestP25_2PatienceOfEach(t *testing.T) {
	for n := 3; n <= 7; n++ {
		for id := 1; id <= n; id++ {
			p := first(t, id, n)
			wantKinds(t, "Tick", p.ticks(7+2*id), "")
			var want []api.Msg
			for to := 1; to <= n; to++ {
				if to != id {
					want = append(want, api.Msg{Kind: api.MPropose, From: id, To: to, Boot: 1, View: int64(id)})
				}
			}
			wantMsgs(t, "it proposes", p.tick(), want...)
			if p.d.View() != int64(id) || p.x.Last() != 0 {
				t.Errorf("promise %d", p.d.View())
			}
			// It asks again, and when it waited in vain it proposes its next one.
			for range 7 + 2*id {
				wantMsgs(t, "it asks again", p.tick(), want...)
			}
			for i := range want {
				want[i].View += int64(n)
			}
			wantMsgs(t, "it proposes again", p.tick(), want...)
		}
	}
}

func TestP25_2AsksThoseThatHaveNotVoted(t *testing.T) {
	p := first(t, 1, 7)
	p.ticks(10)
	p.vote(6, 0, nil, 0)
	wantKinds(t, "Tick", p.tick(), "1>2@1 1>3@1 1>4@1 1>5@1 1>7@1")
	p.vote(2, 0, nil, 0)
	p.vote(2, 0, nil, 0)
	wantKinds(t, "Tick", p.tick(), "1>3@1 1>4@1 1>5@1 1>7@1")
	p.vote(7, 0, nil, 0)
	wantKinds(t, "it installs", p.tick(), "4>2@1 4>6@1 4>7@1")
}

// Enough goes ahead of denied, and of late.
func TestP25_2EnoughDeniedAndLate(t *testing.T) {
	p := first(t, 2, 3)
	p.ticks(12)
	p.hear(api.Msg{Kind: api.MDeny, From: 1, To: 2, Boot: 1, View: 9})
	p.vote(3, 0, nil, 0)
	wantKinds(t, "denied, with enough", p.tick(), "4>3@2")
	// What denied it is kept till it proposes.
	p.ack(3, 0, 0)
	p.ticks(13)
	wantKinds(t, "silence", p.tick(), "1>1@11 1>3@11")
	wantKinds(t, "Tick", p.tick(), "1>1@11 1>3@11")
}

func TestP25_2DeniedByTheGreatest(t *testing.T) {
	for _, x := range []struct {
		denials []int64
		want    string
	}{
		{[]int64{2}, "1>2@4 1>3@4"}, {[]int64{3}, "1>2@4 1>3@4"}, {[]int64{4}, "1>2@7 1>3@7"}, {[]int64{20, 5}, "1>2@22 1>3@22"}, {[]int64{5, 20}, "1>2@22 1>3@22"},
		{[]int64{1}, "1>2@1 1>3@1"}, {[]int64{0}, "1>2@1 1>3@1"}, {[]int64{greatest - 1}, "1>2@1099511627776 1>3@1099511627776"},
	} {
		p := first(t, 1, 3)
		p.ticks(10)
		for _, view := range x.denials {
			p.hear(api.Msg{Kind: api.MDeny, From: 2, To: 1, Boot: 1, View: view})
		}
		wantKinds(t, fmt.Sprint(x.denials), p.tick(), x.want)
		wantKinds(t, "it is not denied any more", p.tick(), x.want)
	}
}

func TestP25_2NoFurtherView(t *testing.T) {
	// 2^40 is 1's of 3; of 2 and 3 none is above it.
	for id := 1; id <= 3; id++ {
		p := newPair(t, id, 3, diskOf(t, 0, greatest-1))
		ms := p.ticks(8 + 2*id)
		if id == 1 {
			wantKinds(t, "the last view", ms, fmt.Sprintf("1>2@%d 1>3@%d", greatest, greatest))
			continue
		}
		for range 30 {
			wantKinds(t, "no view", ms, "")
			ms = p.tick()
		}
	}
	p := first(t, 1, 3)
	p.ticks(10)
	p.hear(api.Msg{Kind: api.MDeny, From: 2, To: 1, Boot: 1, View: greatest})
	wantKinds(t, "denied by the last view", p.tick(), "")
	if p.d.View() != 1 {
		t.Errorf("it promised %d", p.d.View())
	}
	p.vote(2, 0, nil, 0)
	wantKinds(t, "its votes are there still", p.tick(), "4>2@1")
	// It decides, and hears nobody, and still sends nothing.
	p.ticks(13)
	wantKinds(t, "silence", p.tick(), "")
	if _, _, in := p.x.View(); !in {
		t.Error("it left its view for none")
	}
}

func TestP25_2DeciderSends(t *testing.T) {
	p := deciderOf(t, 5, 2, 4)
	p.cast(api.Total, api.Strong, "a=1")
	p.cast(api.Any, api.Weak, "x")
	l := []api.Entry{
		{From: 1, Boot: 1, Seq: 1, Order: api.Total, Level: api.Strong, Stamp: 12, Data: "a=1"},
		{From: 1, Boot: 1, Seq: 2, Order: api.Any, Level: api.Weak, Stamp: 12, Data: "x"},
	}
	install := func(to int) api.Msg {
		return api.Msg{Kind: api.MInstall, From: 1, To: to, Boot: 1, View: 1, Members: 1 | 2 | 8, Entries: l}
	}
	wantMsgs(t, "nobody was heard", p.tick(), install(2), install(4))
	if len(p.ack(4, 0, 0)) != 0 {
		t.Error("MAck of an MInstall")
	}
	wantMsgs(t, "4 was heard", p.tick(), install(2), api.Msg{Kind: api.MAppend, From: 1, To: 4, Boot: 1, View: 1, Entries: l, Num: 2, Clock: 13})
	p.ack(4, 1, 2)
	p.ack(2, 2, 0)
	wantMsgs(t, "both were heard", p.tick(),
		api.Msg{Kind: api.MAppend, From: 1, To: 2, Boot: 1, View: 1, At: 2, Commit: 1, Num: 3, Clock: 14},
		api.Msg{Kind: api.MAppend, From: 1, To: 4, Boot: 1, View: 1, At: 1, Entries: l[1:], Commit: 1, Num: 3, Clock: 14})
	// One says that it has more than there is: it's sent nothing from there.
	p.ack(2, 60, 3)
	wantMsgs(t, "the log is shorter", p.tick()[:1], api.Msg{Kind: api.MAppend, From: 1, To: 2, Boot: 1, View: 1, At: 60, Commit: 1, Num: 4, Clock: 15})
	if p.x.Waits() != 1 || p.x.Commit() != 1 {
		t.Errorf("Waits %d, Commit %d", p.x.Waits(), p.x.Commit())
	}
}

func TestP25_2DeciderOfTheSilent(t *testing.T) {
	p := deciderOf(t, 3, 2, 3)
	for i := range 13 {
		p.ack(2, 0, int64(i))
		wantKinds(t, "Tick", p.tick()[1:], "4>3@1")
	}
	p.cast(api.Any, api.Weak, "x")
	p.ack(2, 0, 13)
	wantKinds(t, "3 is silent for 14 ticks", p.tick(), "1>2@4 1>3@4")
	if _, _, in := p.x.View(); in || p.x.Good() || len(p.x.Log()) != 1 {
		t.Errorf("it is in, or Good, or has not its own entry: %v", p.x.Log())
	}
	// Other messages of a member than MAck are no word of it.
	q := deciderOf(t, 3, 2)
	for i := range 13 {
		for _, kind := range []int{api.MData, api.MAsk, api.MPing, api.MJoin, api.MAppend} {
			q.hear(api.Msg{Kind: kind, From: 2, To: 1, Boot: 1, View: 1, Num: int64(i)})
		}
		q.tick()
	}
	wantKinds(t, "2 is silent", q.tick(), "1>2@4 1>3@4")
}

func TestP25_2DeciderStamps(t *testing.T) {
	p := first(t, 1, 3)
	p.ticks(10)
	p.vote(2, 0, []api.Entry{e(2, 1, 14)}, 0)
	p.tick()
	p.ack(2, 1, 0)
	for i := range 5 {
		p.cast(api.Timed, api.Weak, "")
		p.ack(2, 1+i, 0)
		p.tick()
	}
	var stamps []int64
	for _, x := range p.x.Log() {
		stamps = append(stamps, x.Stamp)
	}
	if !slices.Equal(stamps, []int64{14, 14, 14, 14, 15, 16}) {
		t.Errorf("stamps %v", stamps)
	}
}

func TestP25_2FollowerSends(t *testing.T) {
	p := memberOf(t, 2, 3, nil, 0)
	wantMsgs(t, "Tick", p.tick(), api.Msg{Kind: api.MAsk, From: 2, To: 1, Boot: 1, View: 1, Num: perStartOfDoc + 1})
	p.cast(api.Total, api.Strict, "a=1")
	p.cast(api.Timed, api.Weak, "b")
	es := []api.Entry{{From: 2, Boot: 1, Seq: 1, Order: api.Total, Level: api.Strict, Data: "a=1"}, {From: 2, Boot: 1, Seq: 2, Order: api.Timed, Data: "b"}}
	for i := range int64(3) {
		wantMsgs(t, "Tick", p.tick(), api.Msg{Kind: api.MAsk, From: 2, To: 1, Boot: 1, View: 1, Num: perStartOfDoc + 2 + i}, api.Msg{Kind: api.MData, From: 2, To: 1, Boot: 1, Entries: es})
	}
	p.appends(0, es, 1, 0)
	wantMsgs(t, "one waits", p.tick()[1:], api.Msg{Kind: api.MData, From: 2, To: 1, Boot: 1, Entries: es[1:]})
	p.appends(2, nil, 2, 0)
	wantKinds(t, "none waits", p.tick(), "8>1@1")
}

func TestP25_2FollowerWithoutAWord(t *testing.T) {
	for id := 2; id <= 4; id++ {
		p := memberOf(t, id, 4, run(3), 1)
		p.ticks(5)
		p.appends(3, nil, 1, 0)
		for range 7 + 2*id {
			wantKinds(t, "Tick", p.tick(), "8>1@1")
		}
		if got := kinds(p.tick()); !strings.HasPrefix(got, fmt.Sprintf("1>1@%d ", id)) {
			t.Errorf("it does not propose: %s", got)
		}
		if _, _, in := p.x.View(); in {
			t.Error("it is in its last view")
		}
	}
	// A wrong place is a word of the decider all the same; an MFresh is none.
	p := memberOf(t, 2, 3, nil, 0)
	p.ticks(11)
	p.appends(9, run(1), 1, 0)
	p.ticks(11)
	p.hear(api.Msg{Kind: api.MFresh, From: 1, To: 2, Boot: 1, View: 1, Num: perStartOfDoc + 5})
	wantKinds(t, "Tick", p.tick(), "1>1@2 1>3@2")
}

func TestP25_3Installs(t *testing.T) {
	p := first(t, 1, 7)
	p.ticks(10)
	p.vote(5, 0, run(4), 2)
	p.vote(3, 0, run(5), 1)
	p.vote(2, 0, run(3), 3)
	msg := func(to int) api.Msg {
		return api.Msg{Kind: api.MInstall, From: 1, To: to, Boot: 1, View: 1, Members: 1 | 2 | 4 | 16, Entries: run(5), Commit: 3}
	}
	wantMsgs(t, "it installs", p.tick(), msg(2), msg(3), msg(5))
	if p.x.Last() != 1 || p.x.Commit() != 3 || len(p.x.Told()) != 3 || p.x.Good() {
		t.Errorf("%d, %d, %v", p.x.Last(), p.x.Commit(), p.x.Told())
	}
	// The least of those with one Last and one length, and the commit of one whose log is shorter, or of elder times.
	q := newPair(t, 4, 7, diskOf(t, 0, 8))
	q.ticks(16)
	q.vote(6, 9, []api.Entry{e(6, 1, 1), e(6, 2, 1)}, 0)
	q.vote(5, 9, []api.Entry{e(5, 1, 1), e(5, 2, 1)}, 1)
	q.vote(7, 2, run(60), 60)
	wantKinds(t, "it installs", q.tick(), "4>5@11 4>6@11 4>7@11")
	if !slices.Equal(q.x.Log(), []api.Entry{e(5, 1, 1), e(5, 2, 1)}) || q.x.Commit() != 2 {
		t.Errorf("%v, %d", q.x.Log(), q.x.Commit())
	}
}

func TestP25_3CommitStaysWithinTheLog(t *testing.T) {
	p := memberOf(t, 2, 3, run(5), 4)
	p.ticks(12)
	p.vote(1, 1, run(5), 2)
	p.tick()
	if p.x.Last() != 2 || p.x.Commit() != 4 || len(p.x.Log()) != 5 {
		t.Errorf("%d, %d of %d", p.x.Last(), p.x.Commit(), len(p.x.Log()))
	}
	q := memberOf(t, 2, 3, run(5), 4)
	q.ticks(11)
	q.hear(api.Msg{Kind: api.MPropose, From: 1, To: 2, Boot: 1, View: 4})
	q.ticks(12)
	q.vote(3, 4, run(3), 1)
	q.tick()
	if q.x.Last() != 5 || q.x.Commit() != 3 || len(q.x.Log()) != 3 {
		t.Errorf("%d, %d of %d", q.x.Last(), q.x.Commit(), len(q.x.Log()))
	}
	r := memberOf(t, 2, 3, run(5), 4)
	r.installs(4, 7, run(2), 1)
	if r.x.Commit() != 2 || len(r.x.Log()) != 2 {
		t.Errorf("%d of %d", r.x.Commit(), len(r.x.Log()))
	}
}

// A vote of a view that it did not propose, or does not promise any more, is none.
func TestP25_4Votes(t *testing.T) {
	vote := func(p *pair, from int, view, last int64, l []api.Entry, commit int) {
		p.hear(api.Msg{Kind: api.MVote, From: from, To: 1, Boot: 1, View: view, Last: last, Entries: l, Commit: commit})
	}
	p := first(t, 1, 3)
	vote(p, 2, 0, 0, nil, 0)
	vote(p, 2, 1, 0, nil, 0)
	p.ticks(10)
	vote(p, 2, 0, 0, nil, 0)
	vote(p, 2, 4, 0, nil, 0)
	vote(p, 2, 1, 1, nil, 0)
	vote(p, 2, 1, 0, run(2), 3)
	vote(p, 2, 1, 0, []api.Entry{e(2, 1, 0), e(2, 1, 0)}, 0)
	vote(p, 5, 1, 0, nil, 0)
	wantKinds(t, "no vote", p.tick(), "1>2@1 1>3@1")
	p.hear(api.Msg{Kind: api.MPropose, From: 2, To: 1, Boot: 1, View: 2})
	vote(p, 3, 1, 0, nil, 0)
	wantKinds(t, "its votes are gone", p.ticks(9), "")
	wantKinds(t, "it proposes anew", p.tick(), "1>2@4 1>3@4")
	vote(p, 3, 1, 0, nil, 0)
	wantKinds(t, "an elder vote", p.tick(), "1>2@4 1>3@4")
	vote(p, 3, 4, 3, run(1), 1)
	wantKinds(t, "it installs", p.tick(), "4>3@4")
}

func TestP25_4Ping(t *testing.T) {
	for _, p := range []*pair{first(t, 2, 3), back(t, 2, 3, 5, 9), memberOf(t, 2, 3, nil, 0)} {
		p.ticks(3)
		for _, from := range []int{1, 3, 7} {
			wantMsgs(t, "MPing", p.hear(api.Msg{Kind: api.MPing, From: from, To: 2, Boot: 8, View: 7, Num: 70, Clock: 900}),
				api.Msg{Kind: api.MPong, From: 2, To: from, Boot: p.x.Boot(), Num: 70, Clock: 3})
		}
	}
}

// What gram refuses is nothing: other bytes, another one's message, an elder start's.
func TestP25_4Refused(t *testing.T) {
	p := first(t, 2, 3)
	ping := api.Msg{Kind: api.MPing, From: 1, To: 2, Boot: 3}
	wantKinds(t, "MPing", p.hear(ping), "13>1@0")
	ping.Boot = 2
	wantKinds(t, "of an elder start", p.hear(ping), "")
	ping.Boot, ping.To = 3, 3
	wantKinds(t, "to another one", p.hear(ping), "")
	b := wire.Encode(api.Msg{Kind: api.MPing, From: 1, To: 2, Boot: 3})
	for i := range b {
		c := slices.Clone(b)
		c[i]++
		wantKinds(t, "a changed byte", p.hearBytes(c), "")
		wantKinds(t, "cut", p.hearBytes(b[:i]), "")
	}
	wantKinds(t, "bytes behind", p.hearBytes(append(slices.Clone(b), 0)), "")
	for _, c := range [][]byte{nil, {}, {0}, make([]byte, 100), []byte(strings.Repeat("\xff", 1000))} {
		wantKinds(t, "no message", p.hearBytes(c), "")
	}
	wantKinds(t, "MPing", p.hearBytes(b), "13>1@0")
}

// Who does not know hears MPing and MState alone.
func TestP25_4NotKnowing(t *testing.T) {
	for kind := api.MPropose; kind <= api.MPong; kind++ {
		p := back(t, 2, 3, 5, 1)
		for _, view := range []int64{0, 1, 4, 7} {
			ms := p.hear(api.Msg{Kind: kind, From: 1, To: 2, Boot: 1, View: view, Members: 7, Num: 9, Yes: true})
			if len(ms) > 0 != (kind == api.MPing) || p.x.Knows() || p.d.View() != 1 {
				t.Errorf("kind %d of %d: %v", kind, view, ms)
			}
		}
		wantKinds(t, "Tick", p.ticks(30), "10>1@0 10>3@0")
	}
}

func TestP25_4Word(t *testing.T) {
	word := api.Msg{Kind: api.MState, From: 2, To: 3, Boot: 4, View: 5, Members: 7, Entries: run(4), Commit: 2, Num: 6, Yes: true}
	for _, change := range []func(m *api.Msg){
		func(m *api.Msg) { m.Num = 5 }, func(m *api.Msg) { m.Yes = false }, func(m *api.Msg) { m.View = 2 }, func(m *api.Msg) { m.From = 1 },
		func(m *api.Msg) { m.Members = 1 | 4 }, func(m *api.Msg) { m.Members = 2 }, func(m *api.Msg) { m.Commit = 5 }, func(m *api.Msg) { m.Entries = append(run(4), run(1)...) },
	} {
		p := back(t, 3, 3, 6, 4)
		m := word
		change(&m)
		if ms := p.hear(m); len(ms) > 0 || p.x.Knows() || p.d.View() != 4 {
			t.Errorf("%v is no word: %v", m, ms)
		}
	}
	p := back(t, 3, 3, 6, 4)
	p.ticks(20)
	wantMsgs(t, "the word", p.hear(word), api.Msg{Kind: api.MAck, From: 3, To: 2, Boot: 6, View: 5, At: 4})
	if !p.x.Knows() || p.x.Last() != 5 || p.d.View() != 5 || p.x.Commit() != 2 || !slices.Equal(p.x.Log(), run(4)) || len(p.x.Told()) != 2 || p.x.Good() {
		t.Errorf("the word was not taken: %v, %d, %d", p.x.Knows(), p.x.Last(), p.x.Commit())
	}
	wantKinds(t, "the word again", p.hear(word), "")
	wantKinds(t, "it is patient from the word on", p.ticks(13), "8>2@5")
	wantKinds(t, "it proposes", p.tick(), "1>1@6 1>2@6")
}

// The view whose word it takes may be others' alone.
func TestP25_4WordOfAViewOfOthers(t *testing.T) {
	p := back(t, 3, 3, 2, 5)
	p.ticks(20)
	wantKinds(t, "the word", p.hear(api.Msg{Kind: api.MState, From: 2, To: 3, Boot: 1, View: 5, Members: 3, Entries: run(1), Commit: 1, Num: 2, Yes: true}), "")
	if _, _, in := p.x.View(); in || !p.x.Knows() || p.x.Last() != 5 || len(p.x.Told()) != 1 || p.cast(0, 0, "") != api.ErrNoView {
		t.Error("the word of a view of others")
	}
	wantKinds(t, "it waits", p.ticks(13), "")
	wantKinds(t, "it proposes", p.tick(), "1>1@6 1>2@6")
}

func TestP25_4Propose(t *testing.T) {
	p := memberOf(t, 2, 3, run(3), 1)
	p.ticks(9)
	hear := func(from int, view int64) []api.Msg {
		return p.hear(api.Msg{Kind: api.MPropose, From: from, To: 2, Boot: 1, View: view})
	}
	for _, view := range []int64{0, 2, 3, 5, 6} {
		wantKinds(t, "not his view", hear(1, view), "")
	}
	wantMsgs(t, "its last view", hear(1, 1), api.Msg{Kind: api.MDeny, From: 2, To: 1, Boot: 1, View: 1})
	vote := api.Msg{Kind: api.MVote, From: 2, To: 3, Boot: 1, View: 6, Last: 1, Entries: run(3), Commit: 1}
	wantMsgs(t, "a later view", hear(3, 6), vote)
	if _, _, in := p.x.View(); in || p.d.View() != 6 || p.x.Last() != 1 {
		t.Error("it is in its last view")
	}
	wantKinds(t, "Tick", p.ticks(3), "")
	wantMsgs(t, "again", hear(3, 6), vote)
	wantMsgs(t, "an elder view", hear(1, 4), api.Msg{Kind: api.MDeny, From: 2, To: 1, Boot: 1, View: 6})
	wantMsgs(t, "its own promise's Append", p.hear(api.Msg{Kind: api.MAppend, From: 1, To: 2, Boot: 1, View: 1}))
	// It is patient from its promise on, not from the MVote again.
	wantKinds(t, "it waits", p.ticks(8), "")
	wantKinds(t, "it proposes", p.tick(), "1>1@8 1>3@8")
}

// A promise to another one takes back what denied it.
func TestP25_4ProposeOfOneThatWasDenied(t *testing.T) {
	p := first(t, 1, 3)
	p.ticks(10)
	p.hear(api.Msg{Kind: api.MDeny, From: 3, To: 1, Boot: 1, View: 30})
	p.hear(api.Msg{Kind: api.MPropose, From: 2, To: 1, Boot: 1, View: 2})
	p.hear(api.Msg{Kind: api.MDeny, From: 3, To: 1, Boot: 1, View: 30})
	wantKinds(t, "it proposes", p.ticks(10), "1>2@4 1>3@4")
}

func TestP25_4ProposeDropsTheProof(t *testing.T) {
	p := memberOf(t, 2, 3, nil, 0)
	p.tick()
	p.hear(api.Msg{Kind: api.MFresh, From: 1, To: 2, Boot: 1, View: 1, Num: perStartOfDoc + 1})
	if !p.x.Good() {
		t.Fatal("it is not Good")
	}
	p.tick()
	p.hear(api.Msg{Kind: api.MPropose, From: 1, To: 2, Boot: 1, View: 4})
	p.installs(4, 7, nil, 0)
	for num := int64(1); num <= 3; num++ {
		p.hear(api.Msg{Kind: api.MFresh, From: 1, To: 2, Boot: 1, View: 4, Num: perStartOfDoc + num})
		if p.x.Good() {
			t.Errorf("Good by the question %d, which it asked in an elder view", num)
		}
	}
	p.tick()
	p.hear(api.Msg{Kind: api.MFresh, From: 1, To: 2, Boot: 1, View: 4, Num: perStartOfDoc + 3})
	if !p.x.Good() {
		t.Error("it is not Good")
	}
	// An MInstall drops it likewise.
	p.installs(7, 7, nil, 0)
	p.hear(api.Msg{Kind: api.MFresh, From: 1, To: 2, Boot: 1, View: 7, Num: perStartOfDoc + 3})
	if p.x.Good() {
		t.Error("Good in a view of which it has no proof")
	}
}

func TestP25_4Install(t *testing.T) {
	good := api.Msg{Kind: api.MInstall, From: 2, To: 3, Boot: 1, View: 7, Members: 2 | 4 | 8 | 1, Entries: run(4), Commit: 2}
	at := func(promise int64) *pair { return newPair(t, 3, 5, diskOf(t, 0, promise)) }
	for _, change := range []func(m *api.Msg){
		func(m *api.Msg) { m.From = 1 }, func(m *api.Msg) { m.View = 2 }, func(m *api.Msg) { m.View = 8 }, func(m *api.Msg) { m.View = 0 },
		func(m *api.Msg) { m.Members = 2 | 4 }, func(m *api.Msg) { m.Members = 1 | 2 | 8 }, func(m *api.Msg) { m.Members = 1 | 4 | 8 }, func(m *api.Msg) { m.Members = 2 | 4 | 8 | 64 },
		func(m *api.Msg) { m.Commit = 5 }, func(m *api.Msg) { m.Entries = []api.Entry{e(2, 1, 1), e(2, 2, 0)} }, func(m *api.Msg) { m.Entries = append(run(4), run(1)...) },
	} {
		p := at(6)
		m := good
		change(&m)
		if ms := p.hear(m); len(ms) > 0 || p.x.Last() != 0 || p.d.View() != 6 {
			t.Errorf("%v installs: %v", m, ms)
		}
	}
	for _, promise := range []int64{0, 6, 7} {
		p := at(promise)
		p.ticks(3)
		wantMsgs(t, "it installs", p.hear(good), api.Msg{Kind: api.MAck, From: 3, To: 2, Boot: 1, View: 7, At: 4})
		if view, members, in := p.x.View(); view != 7 || !in || members != 15 || p.d.View() != 7 || p.x.Commit() != 2 || !slices.Equal(p.x.Log(), run(4)) {
			t.Errorf("%d, %v, %v", view, members.List(), in)
		}
		wantKinds(t, "it waits from there", p.ticks(13), "8>2@7")
		wantKinds(t, "it proposes", p.tick(), "1>1@8 1>2@8 1>4@8 1>5@8")
	}
	wantKinds(t, "of an elder promise", at(8).hear(good), "")
}

func TestP25_4InstallAgain(t *testing.T) {
	p := memberOf(t, 2, 3, run(2), 1)
	p.ticks(11)
	p.appends(2, run(4)[2:], 3, 0)
	p.ticks(11)
	wantMsgs(t, "again", p.installs(1, 7, run(2), 1), api.Msg{Kind: api.MAck, From: 2, To: 1, Boot: 1, View: 1, At: 4})
	wantKinds(t, "it is patient from there", p.ticks(11), "8>1@1")
	if p.x.Commit() != 3 || len(p.x.Log()) != 4 {
		t.Errorf("%d of %d", p.x.Commit(), len(p.x.Log()))
	}
	wantKinds(t, "of too few", p.installs(1, 3, append(run(2), run(1)...), 1), "")
	p.hear(api.Msg{Kind: api.MPropose, From: 3, To: 2, Boot: 1, View: 3})
	wantKinds(t, "its promise is another one", p.installs(1, 7, run(2), 1), "")
}

// Who has votes, or decides, hears an MInstall of a later view.
func TestP25_4InstallOfAnotherOne(t *testing.T) {
	p := first(t, 1, 3)
	p.ticks(10)
	p.hear(api.Msg{Kind: api.MDeny, From: 2, To: 1, Boot: 1, View: 30})
	wantKinds(t, "MInstall", p.installs(2, 3, nil, 0), "6>2@2")
	p.hear(api.Msg{Kind: api.MVote, From: 3, To: 1, Boot: 1, View: 1})
	wantKinds(t, "it follows", p.tick(), "8>2@2")
	// What denied it is not taken back.
	wantKinds(t, "it proposes", p.ticks(9), "1>2@31 1>3@31")
	q := deciderOf(t, 3, 2)
	q.ack(2, 0, 0)
	q.tick()
	wantKinds(t, "MInstall", q.installs(3, 5, nil, 0), "6>3@3")
	wantKinds(t, "it does not decide", q.hear(api.Msg{Kind: api.MJoin, From: 2, To: 1, Boot: 1, Num: 1}), "")
	wantKinds(t, "it follows", q.tick(), "8>3@3")
}

func TestP25_4Append(t *testing.T) {
	ack := func(at int, num int64) api.Msg {
		return api.Msg{Kind: api.MAck, From: 2, To: 1, Boot: 1, View: 1, At: at, Num: num}
	}
	p := memberOf(t, 2, 3, run(2), 0)
	wantMsgs(t, "more", p.appends(2, run(4)[2:], 1, 5), ack(4, 5))
	wantMsgs(t, "what is there", p.appends(1, run(3)[1:], 2, 0), ack(4, 0))
	if p.x.Commit() != 2 {
		t.Errorf("Commit %d", p.x.Commit())
	}
	wantMsgs(t, "beyond the log", p.appends(5, run(6)[5:], 4, 6), ack(4, 6))
	wantMsgs(t, "others", p.appends(3, []api.Entry{e(2, 900, 9)}, 4, 7), ack(4, 7))
	if p.x.Commit() != 2 || len(p.x.Log()) != 4 {
		t.Errorf("a Put that failed: %d of %d", p.x.Commit(), len(p.x.Log()))
	}
	wantMsgs(t, "a lesser commit", p.appends(4, nil, 1, 8), ack(4, 8))
	if p.x.Commit() != 2 {
		t.Errorf("Commit %d", p.x.Commit())
	}
	wantMsgs(t, "a commit beyond the log", p.appends(0, nil, 60, greatest), ack(4, greatest))
	if p.x.Commit() != 4 {
		t.Errorf("Commit %d", p.x.Commit())
	}
	m := api.Msg{Kind: api.MAppend, From: 1, To: 2, Boot: 1, View: 1, At: 4, Entries: run(5)[4:]}
	for _, change := range []func(m *api.Msg){func(m *api.Msg) { m.From = 3 }, func(m *api.Msg) { m.View = 4 }, func(m *api.Msg) { m.View = 0 }, func(m *api.Msg) { m.From, m.View = 3, 3 }} {
		x := m
		change(&x)
		if ms := p.hear(x); len(ms) > 0 || len(p.x.Log()) != 4 {
			t.Errorf("%v: %v", x, ms)
		}
	}
	p.hear(api.Msg{Kind: api.MPropose, From: 3, To: 2, Boot: 1, View: 3})
	wantKinds(t, "its promise is another one", p.hear(m), "")
	// Who decides hears none, whoever it is from.
	q := deciderOf(t, 3, 2)
	m.To, m.From = 1, 2
	wantKinds(t, "it decides", q.hear(m), "")
}

func TestP25_4Ack(t *testing.T) {
	p := deciderOf(t, 5, 2, 3)
	for range 3 {
		p.cast(api.Total, api.Strong, "a=1")
	}
	p.tick()
	ack := func(from int, view int64, at int) {
		p.hear(api.Msg{Kind: api.MAck, From: from, To: 1, Boot: 1, View: view, At: at})
	}
	ack(2, 1, 2)
	ack(4, 1, 3)
	ack(7, 1, 3)
	ack(3, 0, 3)
	ack(3, 2, 3)
	if p.x.Commit() != 0 {
		t.Errorf("Commit %d by who is no member, or of another view", p.x.Commit())
	}
	wantKinds(t, "3 was not heard", p.tick(), "5>2@1 4>3@1")
	ack(3, 1, 1)
	if p.x.Commit() != 1 || len(p.x.Told()) != 1 {
		t.Errorf("Commit %d", p.x.Commit())
	}
	ack(3, 1, 0)
	ack(3, 1, 60)
	if p.x.Commit() != 2 {
		t.Errorf("Commit %d", p.x.Commit())
	}
	ack(2, 1, 60)
	if p.x.Commit() != 3 || p.x.Waits() != 0 {
		t.Errorf("Commit %d", p.x.Commit())
	}
}

func TestP25_4Data(t *testing.T) {
	p := deciderOf(t, 3, 2)
	p.tick()
	x := api.Entry{From: 2, Boot: 7, Seq: 9, Order: api.Total, Level: api.Strong, Stamp: 900, Data: "a=1"}
	y := api.Entry{From: 2, Boot: 7, Seq: 8, Data: "b"}
	p.hear(api.Msg{Kind: api.MData, From: 2, To: 1, Boot: 1, Entries: []api.Entry{x, e(1, 1, 0), e(3, 1, 0), y, x}})
	z := api.Entry{From: 3, Boot: 1, Seq: 1, Data: "c"}
	p.tick()
	p.hear(api.Msg{Kind: api.MData, From: 3, To: 1, Boot: 1, View: 9, Entries: []api.Entry{z, x}})
	x.Stamp, y.Stamp, z.Stamp = 12, 12, 13
	if !slices.Equal(p.x.Log(), []api.Entry{x, y, z}) {
		t.Errorf("%v", p.x.Log())
	}
	// It has them itself at once.
	p.ack(2, 3, 0)
	if p.x.Commit() != 3 {
		t.Errorf("Commit %d", p.x.Commit())
	}
	q := memberOf(t, 2, 3, nil, 0)
	q.hear(api.Msg{Kind: api.MData, From: 3, To: 2, Boot: 1, Entries: []api.Entry{e(3, 1, 0)}})
	if len(q.x.Log()) != 0 {
		t.Error("one that does not decide adds entries")
	}
}

// A log takes 60: others wait on, and are sent on.
func TestP25_4FullLog(t *testing.T) {
	p := first(t, 1, 3)
	p.ticks(10)
	p.vote(2, 0, run(58), 58)
	p.tick()
	for range 4 {
		p.cast(api.Any, api.Weak, "x")
	}
	p.ack(2, 58, 0)
	p.tick()
	p.hear(api.Msg{Kind: api.MData, From: 2, To: 1, Boot: 1, Entries: []api.Entry{e(2, 1, 0)}})
	p.ack(2, 60, 1)
	if len(p.x.Log()) != 60 || p.x.Commit() != 60 || p.x.Waits() != 2 || len(p.x.Told()) != 60 {
		t.Errorf("%d of %d, %d wait", p.x.Commit(), len(p.x.Log()), p.x.Waits())
	}
	if p.cast(0, 0, "") != api.OK || p.cast(0, 0, "") != api.OK || p.cast(0, 0, "") != api.ErrBusy {
		t.Error("Cast")
	}
}

func TestP25_4Join(t *testing.T) {
	p := deciderOf(t, 5, 2, 4)
	p.cast(api.Total, api.Weak, "a")
	p.tick()
	p.ack(2, 1, 1)
	p.ack(4, 1, 1)
	for _, from := range []int{2, 3, 5, 6} {
		wantMsgs(t, "MJoin", p.hear(api.Msg{Kind: api.MJoin, From: from, To: 1, Boot: 5, View: 70, Num: 5}),
			api.Msg{Kind: api.MState, From: 1, To: from, Boot: 1, View: 1, Members: 1 | 2 | 8, Entries: p.x.Log(), Commit: 1, Num: 5, Yes: true})
	}
	for _, q := range []*pair{first(t, 2, 3), memberOf(t, 2, 3, nil, 0)} {
		wantKinds(t, "it does not decide", q.hear(api.Msg{Kind: api.MJoin, From: 3, To: 2, Boot: 5, Num: 5}), "")
	}
	p.hear(api.Msg{Kind: api.MPropose, From: 2, To: 1, Boot: 5, View: 2})
	wantKinds(t, "it decides no more", p.hear(api.Msg{Kind: api.MJoin, From: 3, To: 1, Boot: 5, Num: 5}), "")
}

func (p *pair) asks(from int, view, num int64) {
	p.t.Helper()
	wantKinds(p.t, "MAsk", p.hear(api.Msg{Kind: api.MAsk, From: from, To: p.m.id, Boot: 1, View: view, Num: num}), "")
}

func TestP25_4Questions(t *testing.T) {
	p := deciderOf(t, 5, 2, 3)
	p.ack(2, 0, 0)
	p.ack(3, 0, 0)
	p.asks(3, 1, 70)
	p.asks(2, 1, 80)
	p.asks(4, 1, 90)
	p.asks(2, 0, 91)
	p.asks(2, 2, 92)
	p.asks(3, 1, 60)
	wantKinds(t, "no probe was made", p.ack(2, 0, 1), "")
	p.tick()
	p.asks(2, 1, 81)
	wantKinds(t, "one of two", p.ack(2, 0, 1), "")
	if p.x.Good() {
		t.Error("Good ahead of the answers")
	}
	fresh := func(to int, num int64) api.Msg {
		return api.Msg{Kind: api.MFresh, From: 1, To: to, Boot: 1, View: 1, Num: num}
	}
	wantMsgs(t, "most", p.ack(3, 0, 1), fresh(3, 70), fresh(2, 80), fresh(3, 60))
	if !p.x.Good() {
		t.Error("its own question is answered, too")
	}
	wantKinds(t, "again", p.ack(3, 0, 1), "")
	p.tick()
	p.tick()
	wantKinds(t, "an elder probe", p.ack(3, 0, 1), "")
	wantKinds(t, "one of two", p.ack(2, 0, 3), "")
	wantMsgs(t, "the one ahead of the last", p.ack(3, 0, 2), fresh(2, 81))
}

// Ahead of its start nothing is answered.
func TestP25_4QuestionsAheadOfTheStart(t *testing.T) {
	p := first(t, 1, 3)
	p.ticks(10)
	p.vote(2, 0, run(3), 1)
	p.tick()
	p.ack(2, 0, 0)
	p.asks(2, 1, 5)
	p.tick()
	wantKinds(t, "1 of 3", p.ack(2, 1, 1), "")
	wantKinds(t, "2 of 3", p.ack(2, 2, 1), "")
	p.tick()
	p.asks(2, 1, 6)
	if p.x.Good() {
		t.Error("Good ahead of its start")
	}
	wantMsgs(t, "3 of 3", p.ack(2, 3, 0), api.Msg{Kind: api.MFresh, From: 1, To: 2, Boot: 1, View: 1, Num: 5, Commit: 3})
	if !p.x.Good() {
		t.Error("not Good")
	}
	// Good from when it asked, at 12, for 12 ticks.
	for range 10 {
		p.tick()
		if !p.x.Good() {
			t.Fatalf("not Good at %d", p.x.Clock())
		}
		p.ack(2, 3, 0)
	}
	p.tick()
	if p.x.Good() {
		t.Error("Good by an elder answer")
	}
}

func TestP25_4AtMost64Questions(t *testing.T) {
	for _, own := range []int{0, 1, 5} {
		p := deciderOf(t, 3, 2)
		p.ack(2, 0, 0)
		p.ticks(own)
		for i := range int64(100) {
			p.asks(2, 1, 1000+i)
		}
		ms := append(p.tick(), p.ack(2, 0, int64(own+1))...)[1:]
		if len(ms) != 64-own || ms[0].Num != 1000 || ms[len(ms)-1].Num != int64(1063-own) {
			t.Errorf("%d answers beside %d of its own: %v", len(ms), own, ms)
		}
		if !p.x.Good() {
			t.Error("its own one waits as well")
		}
		p.asks(2, 1, 5)
		wantKinds(t, "there is room again", append(p.tick(), p.ack(2, 0, int64(own+2))...)[1:], "9>2@1")
	}
}

// A new view has no questions, no acks, no probes.
func TestP25_3NewView(t *testing.T) {
	p := deciderOf(t, 3, 2)
	p.ack(2, 7, 0)
	p.asks(2, 1, 5)
	p.tick()
	p.ticks(12)
	wantKinds(t, "it proposes", p.tick(), "1>2@4 1>3@4")
	wantKinds(t, "of the elder view", p.ack(2, 0, 3), "")
	p.vote(3, 0, nil, 0)
	wantKinds(t, "it installs", p.tick(), "4>3@4")
	p.cast(0, 0, "x")
	wantKinds(t, "nobody was heard", p.tick(), "4>3@4")
	wantKinds(t, "no question", p.hear(api.Msg{Kind: api.MAck, From: 3, To: 1, Boot: 1, View: 4, Num: 1}), "")
	ms := p.tick()
	wantKinds(t, "3 has nothing", ms, "5>3@4")
	if ms[0].At != 0 || len(ms[0].Entries) != 1 || ms[0].Num != 2 || ms[0].Commit != 0 {
		t.Errorf("%v", ms)
	}
}

func TestP25_4Fresh(t *testing.T) {
	p := memberOf(t, 2, 3, run(2), 1)
	p.ticks(2)
	good := api.Msg{Kind: api.MFresh, From: 1, To: 2, Boot: 1, View: 1, Num: perStartOfDoc + 2, Commit: 1}
	for _, change := range []func(m *api.Msg){
		func(m *api.Msg) { m.From = 3 }, func(m *api.Msg) { m.View = 4 }, func(m *api.Msg) { m.View = 0 }, func(m *api.Msg) { m.From, m.View = 3, 3 },
		func(m *api.Msg) { m.Num++ }, func(m *api.Msg) { m.Num = 2 }, func(m *api.Msg) { m.Num = 0 },
	} {
		m := good
		change(&m)
		if p.hear(m); p.x.Good() {
			t.Errorf("Good by %v", m)
		}
	}
	good.Commit = 2
	if p.hear(good); p.x.Good() {
		t.Error("Good with a lesser commit than elsewhere")
	}
	if p.appends(2, nil, 2, 0); !p.x.Good() {
		t.Error("not Good with the commit of elsewhere")
	}
	p.ticks(11)
	if !p.x.Good() {
		t.Error("not Good for 12 ticks")
	}
	if p.tick(); p.x.Good() {
		t.Error("Good for 12 ticks and more")
	}
}

func TestP25_5Tells(t *testing.T) {
	x := func(seq int64, order, level int, stamp int64, data string) api.Entry {
		return api.Entry{From: 3, Boot: 1, Seq: seq, Order: order, Level: level, Stamp: stamp, Data: data}
	}
	l := []api.Entry{
		x(1, api.Total, api.Strong, 0, "a=1"), x(2, api.Any, api.Weak, 0, "b=1"), x(3, api.Any, api.Strong, 0, "c=1"),
		x(4, api.Total, api.Weak, 0, "d=1"), x(5, api.Timed, api.Strong, 4, "e=1"), x(6, api.Total, api.Strict, 4, "f=1"),
	}
	p := memberOf(t, 2, 3, nil, 0)
	wantTold := func(what string, names string, places ...int) {
		t.Helper()
		var got []int
		for _, y := range p.x.Told() {
			got = append(got, y.At)
		}
		if !slices.Equal(got, places) || strings.Join(p.x.Table().Names(), "") != names {
			t.Errorf("%s: %v, %v; want %v, %s", what, got, p.x.Table().Names(), places, names)
		}
	}
	p.appends(0, l, 0, 0)
	wantTold("nothing is committed", "", 2)
	p.appends(6, nil, 1, 0)
	wantTold("1", "a", 2, 1, 4)
	p.appends(6, nil, 6, 0)
	wantTold("6", "a", 2, 1, 4, 3)
	p.ticks(6)
	wantTold("it is held", "a", 2, 1, 4, 3)
	p.tick()
	wantTold("at 7", "af", 2, 1, 4, 3, 5, 6)
	if s, ok := p.x.Table().Get("f"); s != "1" || !ok {
		t.Errorf("f: %s", s)
	}
	// The log and the commit that come in one message are one.
	q := memberOf(t, 2, 3, nil, 0)
	q.appends(0, l[:4], 4, 0)
	if got := q.x.Told(); len(got) != 4 || got[0].At != 1 || got[1].At != 2 || got[2].At != 3 || got[3].At != 4 {
		t.Errorf("%v", got)
	}
}

// What is nothing settles nothing.
func TestP25_5BehindNothing(t *testing.T) {
	p := memberOf(t, 2, 3, []api.Entry{e(2, 1, 0)}, 1)
	p.cast(api.Total, api.Strong, "mine")
	p.hear(api.Msg{Kind: api.MJoin, From: 3, To: 2, Boot: 1})
	p.hearBytes([]byte("no message"))
	if p.x.Waits() != 1 {
		t.Error("behind nothing")
	}
	p.hear(api.Msg{Kind: api.MPing, From: 3, To: 2, Boot: 1})
	if p.x.Waits() != 0 {
		t.Error("behind an MPing")
	}
	p.cast(api.Total, api.Strong, "mine")
	p.installs(4, 7, []api.Entry{e(2, 1, 0), e(2, 2, 0)}, 1)
	if p.x.Waits() != 1 {
		t.Error("it is not committed")
	}
	p.appends(2, nil, 2, 0)
	if p.x.Waits() != 0 {
		t.Error("it is committed")
	}
}

func TestP25_6Cast(t *testing.T) {
	if err := first(t, 1, 3).cast(9, 9, strings.Repeat("x", 99)); err != api.ErrNoView {
		t.Errorf("in no view: %v", err)
	}
	if err := back(t, 1, 3, 2, 7).cast(0, 0, ""); err != api.ErrNoView {
		t.Errorf("who does not know: %v", err)
	}
	for _, p := range []*pair{memberOf(t, 2, 3, nil, 0), deciderOf(t, 3, 2)} {
		for _, n := range []int{math.MinInt, -1, 3, math.MaxInt} {
			if p.cast(n, 0, "") != api.ErrForm || p.cast(0, n, "") != api.ErrForm {
				t.Errorf("of %d", n)
			}
		}
		if p.cast(0, 0, "seventeen letters") != api.ErrForm || p.cast(2, 2, "sixteen letters!") != api.OK {
			t.Error("of its data")
		}
		for range 3 {
			p.cast(1, 1, "")
		}
		if p.cast(1, 1, "") != api.ErrBusy || p.cast(3, 1, "") != api.ErrForm || p.x.Waits() != 4 {
			t.Errorf("Waits %d", p.x.Waits())
		}
		p.hear(api.Msg{Kind: api.MPropose, From: 3, To: p.m.id, Boot: 1, View: 3})
		if p.cast(1, 1, "") != api.ErrNoView || p.x.Waits() != 4 {
			t.Error("it left its view")
		}
	}
}

func TestP25_6NilNode(t *testing.T) {
	var none *Node
	if none.Cast(0, 0, "") != api.ErrDown || none.Cast(-9, 9, strings.Repeat("x", 99)) != api.ErrDown || none.Table() != nil {
		t.Error("Cast, Table")
	}
	ping := wire.Encode(api.Msg{Kind: api.MPing, From: 1, To: 2, Boot: 3})
	for _, x := range []*Node{none, {}} {
		for range 20 {
			view, members, in := x.View()
			if len(x.Tick()) != 0 || len(x.Hear(ping)) != 0 || len(x.Hear(nil)) != 0 || view != 0 || members != 0 || in || x.Good() || len(x.Told()) != 0 || len(x.Log()) != 0 ||
				x.Commit() != 0 || x.Boot() != 0 || x.Knows() || x.Last() != 0 || len(x.Table().Names()) != 0 || x.Waits() != 0 {
				t.Error("not zero")
			}
		}
		if x == nil && x.Clock() != 0 || x != nil && x.Cast(0, 0, "") == api.OK {
			t.Error("Clock, Cast")
		}
	}
}

func TestP0_3AnswersAreNewMemory(t *testing.T) {
	spoil := func(l []api.Entry) {
		for i := range l[:cap(l)] {
			l[:cap(l)][i] = api.Entry{From: 7, Data: "spoilt"}
		}
	}
	sent := func(p *pair, ms []api.Msg) {
		t.Helper()
		var want [][]api.Entry
		for _, m := range ms {
			want = append(want, slices.Clone(m.Entries))
		}
		for i, m := range ms {
			spoil(m.Entries)
			for k := i + 1; k < len(ms); k++ {
				if !slices.Equal(ms[k].Entries, want[k]) {
					t.Errorf("two messages share entries")
				}
			}
		}
		clear(ms[:cap(ms)])
		p.check("its answers were spoilt")
	}
	p := deciderOf(t, 5, 2, 3, 4)
	for range 3 {
		p.cast(api.Total, api.Strong, "a=1")
	}
	sent(p, p.tick())
	p.ack(2, 0, 0)
	p.ack(3, 0, 0)
	sent(p, p.tick())
	p.ack(2, 3, 0)
	p.ack(3, 3, 0)
	sent(p, p.hear(api.Msg{Kind: api.MJoin, From: 5, To: 1, Boot: 1}))
	spoil(p.x.Log())
	told := p.x.Told()
	clear(told[:cap(told)])
	p.x.Table().Do(api.Entry{From: 1, Boot: 1, Seq: 1, Data: "a="})
	p.check("its answers were spoilt")
	sent(p, p.hear(api.Msg{Kind: api.MPropose, From: 2, To: 1, Boot: 1, View: 2}))
	q := memberOf(t, 2, 3, run(3), 1)
	q.cast(0, 0, "x")
	sent(q, q.tick())
	q.ticks(10)
	sent(q, q.tick())
	q.vote(1, 0, run(2), 0)
	sent(q, q.tick())
}

// Bytes that are handed in are neither changed nor kept.
func TestP0_3ArgumentsStayAsTheyAre(t *testing.T) {
	p := first(t, 2, 3)
	b := wire.Encode(api.Msg{Kind: api.MInstall, From: 1, To: 2, Boot: 1, View: 1, Members: 7, Entries: run(9), Commit: 4})
	room := append(slices.Clone(b), make([]byte, 50)...)
	was := slices.Clone(room)
	p.hearBytes(room[:len(b)])
	if !slices.Equal(room, was) {
		t.Error("the bytes are other ones")
	}
	clear(room)
	p.check("its bytes were cleared")
	if !slices.Equal(p.x.Log(), run(9)) {
		t.Errorf("%v", p.x.Log())
	}
}

func TestP0_5ProcessesAreTheirOwn(t *testing.T) {
	p, q := first(t, 1, 3), first(t, 1, 3)
	p.ticks(12)
	q.check("the other one's ticks")
	p.vote(2, 0, run(2), 1)
	p.tick()
	q.check("the other one's view")
	wantKinds(t, "Tick", q.ticks(10), "1>2@1 1>3@1")
	p.check("the other one's ticks")
}
