package node

import (
	"cmp"
	"maps"
	"slices"

	"curfew/api"
)

const greatest = int64(1) << 40 // of a view, a start and a time

// model is a process by the words of the chapters, without the layers: what it keeps is what was said, and what follows is
// looked for each time.
type model struct {
	id, n          int
	boot, promise  int64
	clock, heard   int64
	knows          bool
	last           int64
	members        int
	log            []api.Entry
	commit         int
	proposed       int64     // the view of its votes; 0: none
	votes          []api.Msg // as they came, its own first
	denials        []int64
	byOwnVotes     bool
	start          int
	acks           []api.Msg // of this view, its own too, as they came
	probes         int64     // how many were made
	heardOf        map[int]int64
	acked          map[int]int
	questions      []asked
	boots          map[int]int64
	own            []asked // the questions since the last drop
	nums           int64
	proofs         []asked
	waits          []api.Entry
	seq            int64
	told           []api.Told
	words          map[string]entryText
	wasNothing     bool
	promiseAtStart int64
}

type entryText struct{ s string }

// asked is a question: who asked it, when, for which probe, and what the answer told.
type asked struct {
	from       int
	num, probe int64
	clock      int64
	commit     int
}

func newModel(id, n int, boot, promise int64) *model {
	return &model{id: id, n: n, boot: boot, promise: promise, promiseAtStart: promise, knows: boot == 1, nums: boot * 1048576,
		boots: map[int]int64{}, heardOf: map[int]int64{}, acked: map[int]int{}, words: map[string]entryText{}}
}

// decider counts on from the view 1, which is the process 1's.
func decider(view int64, n int) int {
	if view < 1 {
		return 0
	}
	if rest := int(view % int64(n)); rest != 0 {
		return rest
	}
	return n
}

func isMember(id, members int) bool { return members>>(id-1)&1 == 1 }

func mostOf(members, n int) bool {
	count := 0
	for id := 1; id <= n; id++ {
		if isMember(id, members) {
			count++
		}
	}
	return members < 1<<n && 2*count > n
}

func same(a, b api.Entry) bool { return a.From == b.From && a.Boot == b.Boot && a.Seq == b.Seq }

func hasSame(l []api.Entry, e api.Entry) bool {
	return slices.ContainsFunc(l, func(x api.Entry) bool { return same(x, e) })
}

// isLog tells whether each entry may stand behind those ahead; all of them came over the wire, so that each may be.
func isLog(l []api.Entry) bool {
	for i, e := range l {
		if i >= 60 || hasSame(l[:i], e) || i > 0 && e.Stamp < l[i-1].Stamp {
			return false
		}
	}
	return true
}

func (m *model) in() bool {
	return m.knows && m.last > 0 && m.last == m.promise && isMember(m.id, m.members)
}

func (m *model) decides() bool { return m.byOwnVotes && m.in() }

func (m *model) hasVotes() bool { return m.proposed > 0 && m.proposed == m.promise }

func (m *model) late() bool { return m.clock-m.heard >= int64(8+2*m.id) }

func (m *model) msg(kind, to int, x api.Msg) api.Msg {
	x.Kind, x.From, x.To, x.Boot = kind, m.id, to, m.boot
	return x
}

func (m *model) all() []int {
	var l []int
	for id := 1; id <= m.n; id++ {
		if id != m.id {
			l = append(l, id)
		}
	}
	return l
}

func (m *model) otherMembers() []int {
	return slices.DeleteFunc(m.all(), func(id int) bool { return !isMember(id, m.members) })
}

func (m *model) drop() { m.own, m.proofs = nil, nil }

func (m *model) question() int64 {
	m.nums++
	m.own = append(m.own, asked{num: m.nums, clock: m.clock})
	return m.nums
}

// get: only the last 64 questions are answered, and only a later one than what counts.
func (m *model) get(num int64, commit int) {
	for i, q := range m.own {
		if q.num == num && len(m.own)-i <= 64 && (len(m.proofs) == 0 || m.proofs[len(m.proofs)-1].num < num) {
			m.proofs = append(m.proofs, asked{num: num, clock: q.clock, commit: commit})
			return
		}
	}
}

func (m *model) good() bool {
	if !m.in() || len(m.proofs) == 0 {
		return false
	}
	p := m.proofs[len(m.proofs)-1]
	return m.clock-p.clock < 12 && m.clock >= p.clock && m.commit >= p.commit
}

func (m *model) tick() []api.Msg {
	m.clock++
	out := m.work()
	m.settle()
	return out
}

func (m *model) work() []api.Msg {
	var out []api.Msg
	if !m.knows {
		for _, id := range m.all() {
			out = append(out, m.msg(10, id, api.Msg{Num: m.boot}))
		}
		return out
	}
	if m.hasVotes() {
		if 2*len(m.votes) > m.n {
			return m.install()
		}
		if len(m.denials) > 0 || m.late() {
			return m.propose()
		}
		return m.ask()
	}
	if m.decides() {
		return m.lead()
	}
	if m.late() {
		return m.propose()
	}
	if m.in() {
		to := decider(m.last, m.n)
		out = append(out, m.msg(8, to, api.Msg{View: m.last, Num: m.question()}))
		if len(m.waits) > 0 {
			out = append(out, m.msg(7, to, api.Msg{Entries: slices.Clone(m.waits)}))
		}
	}
	return out
}

func (m *model) ask() []api.Msg {
	var out []api.Msg
	for _, id := range m.all() {
		if !slices.ContainsFunc(m.votes, func(v api.Msg) bool { return v.From == id }) {
			out = append(out, m.msg(1, id, api.Msg{View: m.proposed}))
		}
	}
	return out
}

func (m *model) propose() []api.Msg {
	least := m.promise
	for _, v := range m.denials {
		least = max(least, v)
	}
	view := least + 1
	for decider(view, m.n) != m.id {
		view++
	}
	if view > greatest {
		return nil
	}
	m.promise, m.proposed = view, view
	m.votes = []api.Msg{{From: m.id, Last: m.last, Entries: slices.Clone(m.log), Commit: m.commit}}
	m.heard, m.denials = m.clock, nil
	m.drop()
	return m.ask()
}

// setLog keeps the commit within the log.
func (m *model) setLog(l []api.Entry, commit int) {
	m.log = slices.Clone(l)
	if commit > m.commit {
		m.commit = commit
	}
	if m.commit > len(l) {
		m.commit = len(l)
	}
}

func (m *model) install() []api.Msg {
	best := slices.MinFunc(m.votes, func(a, b api.Msg) int {
		return cmp.Or(cmp.Compare(b.Last, a.Last), cmp.Compare(len(b.Entries), len(a.Entries)), cmp.Compare(a.From, b.From))
	})
	commit := 0
	m.members = 0
	for _, v := range m.votes {
		commit = max(commit, v.Commit)
		m.members |= 1 << (v.From - 1)
	}
	m.setLog(best.Entries, min(commit, len(best.Entries)))
	m.last, m.proposed, m.votes, m.byOwnVotes = m.proposed, 0, nil, true
	m.start, m.probes, m.questions = len(m.log), 0, nil
	m.acks = []api.Msg{{From: m.id, At: len(m.log)}}
	m.heardOf, m.acked = map[int]int64{}, map[int]int{}
	m.heard = m.clock
	var out []api.Msg
	for _, id := range m.otherMembers() {
		m.heardOf[id] = m.clock
		out = append(out, m.installMsg(id))
	}
	return out
}

func (m *model) installMsg(id int) api.Msg {
	return m.msg(4, id, api.Msg{View: m.last, Members: m.members, Entries: slices.Clone(m.log), Commit: m.commit})
}

func (m *model) add(e api.Entry) {
	e.Stamp = m.clock
	if n := len(m.log); n > 0 {
		e.Stamp = max(e.Stamp, m.log[n-1].Stamp)
	}
	if len(m.log) < 60 && !hasSame(m.log, e) {
		m.log = append(m.log, e)
		m.acks = append(m.acks, api.Msg{From: m.id, At: len(m.log)})
	}
}

func (m *model) lead() []api.Msg {
	for _, e := range m.waits {
		m.add(e)
	}
	for _, id := range m.otherMembers() {
		if m.clock-m.heardOf[id] >= 14 {
			return m.propose()
		}
	}
	m.probes++
	m.acks = append(m.acks, api.Msg{From: m.id, Num: m.probes})
	m.questions = append(m.questions, asked{from: m.id, num: m.question(), probe: m.probes})
	var out []api.Msg
	for _, id := range m.otherMembers() {
		if m.acked[id] == 0 {
			out = append(out, m.installMsg(id))
			continue
		}
		at := m.have(id)
		out = append(out, m.msg(5, id, api.Msg{View: m.last, At: at, Entries: slices.Clone(m.log[min(at, len(m.log)):]), Commit: m.commit, Num: m.probes, Clock: m.clock}))
	}
	return out
}

func (m *model) have(id int) int {
	n := 0
	for _, a := range m.acks {
		if a.From == id {
			n = max(n, a.At)
		}
	}
	return n
}

func (m *model) answered(id int) int64 {
	n := int64(0)
	for _, a := range m.acks {
		if a.From == id {
			n = max(n, a.Num)
		}
	}
	return n
}

// mostHave is the greatest number that most have, of what each one has.
func (m *model) mostHave(of func(id int) int64) int64 {
	var l []int64
	for id := 1; id <= m.n; id++ {
		l = append(l, of(id))
	}
	for _, x := range slices.Backward(slices.Sorted(slices.Values(l))) {
		count := 0
		for _, y := range l {
			if y >= x {
				count++
			}
		}
		if 2*count > m.n {
			return x
		}
	}
	return 0
}

func (m *model) raise(commit int) {
	if c := min(commit, len(m.log)); c > m.commit {
		m.commit = c
	}
}

// hear tells the answer to what came as x; a nil x is what gram refuses.
func (m *model) hear(x *api.Msg) []api.Msg {
	m.wasNothing = true
	if x == nil || x.To != m.id || x.Boot < m.boots[x.From] {
		return nil
	}
	m.boots[x.From] = x.Boot
	out := m.hearKind(*x)
	if !m.wasNothing {
		m.settle()
	}
	return out
}

func (m *model) hearKind(x api.Msg) []api.Msg {
	f := x.From
	one := func(y api.Msg) []api.Msg { m.wasNothing = false; return []api.Msg{y} }
	if x.Kind == 12 {
		return one(m.msg(13, f, api.Msg{Num: x.Num, Clock: m.clock}))
	}
	if !m.knows {
		if x.Kind == 11 && m.isWord(x) {
			m.leave(x.View)
			m.knows, m.last, m.members, m.log, m.commit = true, x.View, x.Members, slices.Clone(x.Entries), x.Commit
			m.wasNothing = false
			if isMember(m.id, x.Members) {
				return one(m.msg(6, f, api.Msg{View: x.View, At: len(m.log)}))
			}
		}
		return nil
	}
	ofDecider := x.View > 0 && f == decider(x.View, m.n)
	ofMine := m.in() && x.View == m.last && ofDecider
	leads := m.decides()
	ofMember := leads && x.View == m.last && isMember(f, m.members)
	switch {
	case x.Kind == 1 && ofDecider:
		return one(m.hearPropose(x))
	case x.Kind == 2 && m.hasVotes() && x.View > m.promise:
		m.wasNothing = false
		m.denials = append(m.denials, x.View)
	case x.Kind == 3 && m.hasVotes() && x.View == m.proposed:
		m.wasNothing = false
		m.vote(x)
	case x.Kind == 4 && ofDecider && m.isInstall(x):
		if x.View >= m.promise && x.View > m.last {
			m.leave(x.View)
			m.last, m.members = x.View, x.Members
			m.setLog(x.Entries, x.Commit)
			return one(m.msg(6, f, api.Msg{View: x.View, At: len(m.log)}))
		}
		if x.View == m.last && x.View == m.promise {
			m.heard = m.clock
			return one(m.msg(6, f, api.Msg{View: x.View, At: len(m.log)}))
		}
	case x.Kind == 5 && ofMine:
		if m.put(x.At, x.Entries) {
			m.raise(x.Commit)
		}
		m.heard = m.clock
		return one(m.msg(6, f, api.Msg{View: m.last, At: len(m.log), Num: x.Num}))
	case x.Kind == 6 && ofMember:
		return m.hearAck(x)
	case x.Kind == 7 && leads:
		m.wasNothing = false
		for _, e := range x.Entries {
			if e.From == f {
				m.add(e)
			}
		}
	case x.Kind == 8 && ofMember:
		m.wasNothing = false
		if len(m.questions) < 64 {
			m.questions = append(m.questions, asked{from: f, num: x.Num, probe: m.probes + 1})
		}
	case x.Kind == 9 && ofMine:
		m.wasNothing = false
		m.get(x.Num, x.Commit)
	case x.Kind == 10 && leads:
		return one(m.msg(11, f, api.Msg{Num: x.Num, View: m.last, Members: m.members, Entries: slices.Clone(m.log), Commit: m.commit, Yes: true}))
	}
	return nil
}

func (m *model) isWord(x api.Msg) bool {
	return x.Yes && x.Num == m.boot && x.View >= m.promiseAtStart && x.View > 0 && x.From == decider(x.View, m.n) &&
		mostOf(x.Members, m.n) && isMember(x.From, x.Members) && isLog(x.Entries) && x.Commit <= len(x.Entries)
}

func (m *model) isInstall(x api.Msg) bool {
	return mostOf(x.Members, m.n) && isMember(x.From, x.Members) && isMember(m.id, x.Members) && isLog(x.Entries) && x.Commit <= len(x.Entries)
}

// leave is what holds whenever it promises another one.
func (m *model) leave(view int64) {
	m.promise = max(m.promise, view)
	m.proposed, m.votes, m.byOwnVotes = 0, nil, false
	m.drop()
	m.heard = m.clock
}

func (m *model) hearPropose(x api.Msg) api.Msg {
	if x.View < m.promise || x.View == m.promise && m.last >= x.View {
		return m.msg(2, x.From, api.Msg{View: m.promise})
	}
	if x.View > m.promise {
		m.leave(x.View)
		m.denials = nil
	}
	return m.msg(3, x.From, api.Msg{View: x.View, Last: m.last, Entries: slices.Clone(m.log), Commit: m.commit})
}

func (m *model) vote(x api.Msg) {
	if x.From > m.n || slices.ContainsFunc(m.votes, func(v api.Msg) bool { return v.From == x.From }) {
		return
	}
	if x.Last < m.proposed && isLog(x.Entries) && x.Commit <= len(x.Entries) {
		m.votes = append(m.votes, x)
	}
}

func (m *model) put(at int, es []api.Entry) bool {
	if at > len(m.log) {
		return false
	}
	for i, e := range es {
		if at+i < len(m.log) && m.log[at+i] != e {
			return false
		}
	}
	whole := m.log
	if at+len(es) > len(whole) {
		whole = slices.Concat(m.log[:at], es)
	}
	if !isLog(whole) {
		return false
	}
	m.log = whole
	return true
}

func (m *model) hearAck(x api.Msg) []api.Msg {
	m.wasNothing = false
	ack := api.Msg{From: x.From, At: x.At}
	if x.Num <= m.probes {
		ack.Num = x.Num
	}
	m.acks = append(m.acks, ack)
	m.heardOf[x.From] = m.clock
	m.acked[x.From]++
	m.raise(int(m.mostHave(func(id int) int64 { return int64(m.have(id)) })))
	if m.commit < m.start {
		return nil
	}
	probe := m.mostHave(m.answered)
	var out []api.Msg
	var rest []asked
	for _, q := range m.questions {
		switch {
		case q.probe > probe:
			rest = append(rest, q)
		case q.from == m.id:
			m.get(q.num, m.commit)
		default:
			out = append(out, m.msg(9, q.from, api.Msg{View: m.last, Num: q.num, Commit: m.commit}))
		}
	}
	m.questions = rest
	return out
}

func (m *model) cast(order, level int, data string) api.Errno {
	e := api.Entry{From: m.id, Boot: m.boot, Seq: m.seq + 1, Order: order, Level: level, Data: data}
	switch {
	case !m.in():
		return api.ErrNoView
	case order < 0 || order > 2 || level < 0 || level > 2 || len(data) > 16:
		return api.ErrForm
	case len(m.waits) == 4:
		return api.ErrBusy
	}
	m.seq++
	m.waits = append(m.waits, e)
	return api.OK
}

func (m *model) settle() {
	m.waits = slices.DeleteFunc(m.waits, func(e api.Entry) bool { return hasSame(m.log[:m.commit], e) })
	for at := m.mayBeTold(); at > 0; at = m.mayBeTold() {
		e := m.log[at-1]
		m.told = append(m.told, api.Told{At: at, E: e})
		if e.Order == api.Total && (e.Level == api.Strong || e.Level == api.Strict) {
			m.do(e.Data)
		}
	}
}

func (m *model) wasTold(e api.Entry) bool {
	return slices.ContainsFunc(m.told, func(x api.Told) bool { return same(x.E, e) })
}

// mayBeTold is the least place of an entry that may be told; 0: none may.
func (m *model) mayBeTold() int {
	for i, e := range m.log {
		if m.wasTold(e) {
			continue
		}
		ahead := slices.DeleteFunc(slices.Clone(m.log[:i]), m.wasTold)
		no := e.Level > 0 && m.commit < i+1 || e.Level == 2 && len(ahead) > 0 || e.Order == 2 && m.clock < e.Stamp+3
		for _, x := range ahead {
			no = no || e.Order > 0 && x.Order == e.Order
		}
		if !no {
			return i + 1
		}
	}
	return 0
}

func (m *model) do(data string) {
	for i := 1; i < len(data); i++ {
		if data[i] != '=' {
			continue
		}
		if slices.Contains([]byte(data[:i]), '=') {
			return
		}
		delete(m.words, data[:i])
		if i+1 < len(data) {
			m.words[data[:i]] = entryText{data[i+1:]}
		}
		return
	}
}

func (m *model) names() []string { return slices.Sorted(maps.Keys(m.words)) }
