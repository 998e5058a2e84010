package node

import (
	"curfew/api"
	"curfew/quorum"
	"curfew/team"
)

// mostQuestions is how many may wait when another one's comes.
const mostQuestions = 64

// question is one of a process that waits for a probe.
type question struct {
	from       int
	num, probe int64
}

// term is what a process keeps of the view that it decides.
type term struct {
	quorum    *quorum.Quorum
	start     int                // how long the log was at first
	heard     [api.MaxTeam]int64 // the clock when a member was heard last, by id, less 1
	answered  team.Team          // those that were heard in this view
	questions []question         // in the order in which they came
}

// install begins the view that most voted for.
func (x *Node) install() []api.Msg {
	best, _ := x.votes.Best()
	x.take(best.Log, best.Commit)
	x.last, x.members = x.votes.View(), x.votes.Team()
	x.term = &term{quorum: quorum.New(x.n, x.members, x.id), start: x.log.Len()}
	x.ackOwn()
	for i := range x.term.heard {
		x.term.heard[i] = x.clock
	}
	x.votes = nil
	x.heard = x.clock
	var ms []api.Msg
	for _, id := range x.others() {
		ms = append(ms, x.installMsg(id))
	}
	return ms
}

// lead is what it does while it decides.
func (x *Node) lead() []api.Msg {
	for _, e := range x.pending.List() {
		x.add(e)
	}
	if x.isSomeSilent() {
		return x.propose()
	}
	probe := x.term.quorum.Next()
	x.term.ask(question{x.id, x.proof.Ask(x.clock), probe})
	var ms []api.Msg
	for _, id := range x.others() {
		if x.term.answered.Has(id) {
			ms = append(ms, x.appendMsg(id, probe))
		} else {
			ms = append(ms, x.installMsg(id))
		}
	}
	return ms
}

// add puts e at the end of the log, which takes none twice, and none when it is full.
func (x *Node) add(e api.Entry) {
	last, _ := x.log.At(x.log.Len())
	e.Stamp = max(x.clock, last.Stamp)
	x.log.Add(e)
	x.ackOwn()
}

// ackOwn tells the quorum that it has its whole log.
func (x *Node) ackOwn() { x.term.quorum.Ack(x.id, x.log.Len(), 0) }

func (x *Node) isSomeSilent() bool {
	for _, id := range x.others() {
		if x.clock-x.term.heard[id-1] >= api.Silence {
			return true
		}
	}
	return false
}

// answer answers the questions that are open no more. Ahead of its start the commit may be behind what an elder view told.
func (x *Node) answer() []api.Msg {
	if x.commit < x.term.start {
		return nil
	}
	var ms []api.Msg
	for _, q := range x.term.reached() {
		if q.from == x.id {
			x.proof.Get(q.num, x.commit)
		} else {
			ms = append(ms, x.to(q.from, api.Msg{Kind: api.MFresh, View: x.last, Num: q.num, Commit: x.commit}))
		}
	}
	return ms
}

func (x *Node) installMsg(id int) api.Msg {
	return x.to(id, api.Msg{Kind: api.MInstall, View: x.last, Members: int(x.members), Entries: x.log.From(0), Commit: x.commit})
}

func (x *Node) appendMsg(id int, probe int64) api.Msg {
	at := x.term.quorum.Have(id)
	return x.to(id, api.Msg{Kind: api.MAppend, View: x.last, At: at, Entries: x.log.From(at), Commit: x.commit, Num: probe, Clock: x.clock})
}

func (t *term) ask(q question) { t.questions = append(t.questions, q) }

// reached takes out the questions whose probes most answered. They stand at the front: a later one waits for no lesser probe.
func (t *term) reached() []question {
	probe := t.quorum.Probe()
	n := 0
	for n < len(t.questions) && t.questions[n].probe <= probe {
		n++
	}
	l := t.questions[:n]
	t.questions = t.questions[n:]
	return l
}
