package node

import (
	"curfew/api"
	"curfew/log"
	"curfew/team"
	"curfew/vote"
)

// Hear: see the chapter.
func (x *Node) Hear(b []byte) []api.Msg {
	if x == nil {
		return nil
	}
	m, err := x.gram.Hear(b)
	if err != api.OK || !x.heeds(m) {
		return nil
	}
	ms := x.heed(m)
	x.settle()
	return ms
}

// heeds tells whether the chapter says anything of such a message as things stand.
func (x *Node) heeds(m api.Msg) bool {
	switch m.Kind {
	case api.MPing:
		return true
	case api.MPropose:
		return x.knows && isOfDecider(m, x.n)
	case api.MDeny:
		return x.hasVotes() && m.View > x.disk.View()
	case api.MVote:
		return x.hasVotes() && m.View == x.votes.View()
	case api.MInstall:
		return x.knows && x.mayInstall(m)
	case api.MAppend, api.MFresh:
		return x.isIn() && m.View == x.last && isOfDecider(m, x.n)
	case api.MAck, api.MAsk:
		return x.decides() && m.View == x.last && x.members.Has(m.From)
	case api.MData, api.MJoin:
		return x.decides()
	case api.MState:
		return !x.knows
	}
	return false
}

// heed does what the chapter says of a message that it heeds.
func (x *Node) heed(m api.Msg) []api.Msg {
	switch m.Kind {
	case api.MPing:
		return x.reply(m, api.Msg{Kind: api.MPong, Num: m.Num, Clock: x.clock})
	case api.MPropose:
		return x.hearPropose(m)
	case api.MDeny:
		x.denied = max(x.denied, m.View)
	case api.MVote:
		x.votes.Add(vote.Vote{From: m.From, Last: m.Last, Log: m.Entries, Commit: m.Commit})
	case api.MInstall:
		return x.hearInstall(m)
	case api.MAppend:
		return x.hearAppend(m)
	case api.MFresh:
		x.proof.Get(m.Num, m.Commit)
	case api.MAck:
		return x.hearAck(m)
	case api.MAsk:
		x.hearAsk(m)
	case api.MData:
		x.hearData(m)
	case api.MJoin:
		return x.reply(m, api.Msg{Kind: api.MState, View: x.last, Members: int(x.members), Entries: x.log.From(0), Commit: x.commit, Num: m.Num, Yes: true})
	case api.MState:
		return x.hearState(m)
	}
	return nil
}

func (x *Node) hearPropose(m api.Msg) []api.Msg {
	if m.View > x.disk.View() {
		x.promise(m.View)
		x.denied = 0
	}
	if m.View == x.disk.View() && x.last < m.View {
		return x.reply(m, api.Msg{Kind: api.MVote, View: m.View, Last: x.last, Entries: x.log.From(0), Commit: x.commit})
	}
	return x.reply(m, api.Msg{Kind: api.MDeny, View: x.disk.View()})
}

// mayInstall tells whether m installs a view, or the last one again: that's what it is of if it is no later one, since the
// promise is never behind the last view.
func (x *Node) mayInstall(m api.Msg) bool {
	members := team.Team(m.Members)
	return m.View >= x.disk.View() && isOfDecider(m, x.n) &&
		team.Most(members, x.n) && members.Has(m.From) && members.Has(x.id) &&
		log.New(m.Entries...).Len() == len(m.Entries) && m.Commit <= len(m.Entries)
}

func (x *Node) hearInstall(m api.Msg) []api.Msg {
	if m.View > x.last {
		x.enter(m)
	}
	x.heard = x.clock
	return x.ack(m, 0)
}

func (x *Node) hearAppend(m api.Msg) []api.Msg {
	if x.log.Put(m.At, m.Entries) {
		x.raiseCommit(m.Commit)
	}
	x.heard = x.clock
	return x.ack(m, m.Num)
}

func (x *Node) hearAck(m api.Msg) []api.Msg {
	x.term.quorum.Ack(m.From, m.At, m.Num)
	x.term.heard[m.From-1] = x.clock
	x.term.answered = x.term.answered.With(m.From)
	x.raiseCommit(x.term.quorum.Commit())
	return x.answer()
}

func (x *Node) hearAsk(m api.Msg) {
	if len(x.term.questions) < mostQuestions {
		x.term.ask(question{m.From, m.Num, x.term.quorum.Last() + 1})
	}
}

func (x *Node) hearData(m api.Msg) {
	for _, e := range m.Entries {
		if e.From == m.From {
			x.add(e)
		}
	}
}

func (x *Node) hearState(m api.Msg) []api.Msg {
	if !x.join.Hear(m) {
		return nil
	}
	x.join = nil
	x.knows = true
	x.enter(m)
	if !x.members.Has(x.id) {
		return nil
	}
	return x.ack(m, 0)
}

// enter makes the view of an MInstall, or of the word, its last one.
func (x *Node) enter(m api.Msg) {
	x.promise(m.View)
	x.last, x.members = m.View, team.Team(m.Members)
	x.take(m.Entries, m.Commit)
}

// ack tells who sent m how much it has, and which probe it answers.
func (x *Node) ack(m api.Msg, probe int64) []api.Msg {
	return x.reply(m, api.Msg{Kind: api.MAck, View: x.last, At: x.log.Len(), Num: probe})
}

func (x *Node) reply(m, with api.Msg) []api.Msg { return []api.Msg{x.to(m.From, with)} }

// isOfDecider tells whether m is from who decides its View.
func isOfDecider(m api.Msg, n int) bool { return team.Decider(m.View, n) == m.From }
