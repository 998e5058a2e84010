package node

import (
	"curfew/api"
	"curfew/team"
	"curfew/vote"
)

// Tick: see the chapter.
func (x *Node) Tick() []api.Msg {
	if x == nil {
		return nil
	}
	x.clock++
	ms := x.act()
	x.settle()
	return ms
}

func (x *Node) act() []api.Msg {
	switch {
	case !x.knows:
		return x.join.Ask()
	case x.hasVotes():
		return x.gather()
	case x.decides():
		return x.lead()
	case x.isLate():
		return x.propose()
	case x.isIn():
		return x.follow()
	}
	return nil
}

// gather is what it does while it has votes.
func (x *Node) gather() []api.Msg {
	switch {
	case x.votes.Enough():
		return x.install()
	case x.denied > 0 || x.isLate():
		return x.propose()
	}
	return x.canvass()
}

// follow is what it does in a view that another one decides.
func (x *Node) follow() []api.Msg {
	decider := team.Decider(x.last, x.n)
	ms := []api.Msg{x.to(decider, api.Msg{Kind: api.MAsk, View: x.last, Num: x.proof.Ask(x.clock)})}
	if es := x.pending.List(); len(es) > 0 {
		ms = append(ms, x.to(decider, api.Msg{Kind: api.MData, Entries: es}))
	}
	return ms
}

func (x *Node) propose() []api.Msg {
	view := x.nextView()
	if view == 0 {
		return nil
	}
	x.promise(view)
	x.denied = 0
	x.votes = vote.New(view, x.n)
	x.votes.Add(vote.Vote{From: x.id, Last: x.last, Log: x.log.From(0), Commit: x.commit})
	return x.canvass()
}

// nextView is the view that it may propose; 0: there is none.
func (x *Node) nextView() int64 {
	least := max(x.disk.View(), x.denied) + 1
	for view := least; view < least+int64(x.n) && view <= api.MaxNum; view++ {
		if team.Decider(view, x.n) == x.id {
			return view
		}
	}
	return 0
}

// canvass asks each one that has not voted; it has itself.
func (x *Node) canvass() []api.Msg {
	var ms []api.Msg
	for id := 1; id <= x.n; id++ {
		if !x.votes.Team().Has(id) {
			ms = append(ms, x.to(id, api.Msg{Kind: api.MPropose, View: x.votes.View()}))
		}
	}
	return ms
}
