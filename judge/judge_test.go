package judge

import (
	"math"
	"math/rand"
	"slices"
	"strings"
	"testing"

	"curfew/api"
)

// entryOf is one of 1's first start that is Total and Strong.
func entryOf(seq int64) api.Entry {
	return api.Entry{From: 1, Boot: 1, Seq: seq, Order: api.Total, Level: api.Strong, Data: "a=1"}
}

func entriesOf(seqs ...int64) []api.Entry {
	var l []api.Entry
	for _, seq := range seqs {
		l = append(l, entryOf(seq))
	}
	return l
}

// told are those, each with its place.
func told(es ...api.Entry) []api.Told {
	var l []api.Told
	for i, e := range es {
		l = append(l, api.Told{At: i + 1, E: e})
	}
	return l
}

func toldOf(seqs ...int64) []api.Told { return told(entriesOf(seqs...)...) }

// of is an entry of that order and level.
func of(seq int64, order, level int) api.Entry {
	e := entryOf(seq)
	e.Order, e.Level = order, level
	return e
}

// changes are those that make another entry of one, each in one field.
func changes() map[string]func(e *api.Entry) {
	return map[string]func(e *api.Entry){
		"From":  func(e *api.Entry) { e.From++ },
		"Boot":  func(e *api.Entry) { e.Boot++ },
		"Seq":   func(e *api.Entry) { e.Seq += 100 },
		"Order": func(e *api.Entry) { e.Order = api.Any },
		"Level": func(e *api.Entry) { e.Level = api.Strict },
		"Stamp": func(e *api.Entry) { e.Stamp++ },
		"Data":  func(e *api.Entry) { e.Data += "0" },
	}
}

// odd are entries that may not be, and those at the edges of what a number can be.
func odd() []api.Entry {
	return []api.Entry{
		{}, {From: -1, Boot: -1, Seq: -1, Order: -1, Level: -1, Stamp: -1},
		{From: math.MaxInt64, Boot: math.MaxInt64, Seq: math.MaxInt64, Order: math.MaxInt64, Level: math.MaxInt64, Stamp: math.MaxInt64},
		{From: math.MinInt64, Boot: math.MinInt64, Seq: math.MinInt64, Order: math.MinInt64, Level: math.MinInt64, Stamp: math.MinInt64},
		{From: 8, Boot: 1 << 50, Seq: 1 << 60, Order: api.Total, Level: api.Strict, Data: strings.Repeat("\xff", 1000)},
		{From: 1<<32 + 1, Boot: 1<<32 + 1, Seq: 1<<32 + 1, Order: api.Total, Level: 1<<32 + 1},
		{From: 1, Boot: 1, Seq: 1, Order: 1<<32 + 1, Level: api.Strong},
	}
}

func wantFirm(t *testing.T, l []api.Told, want ...api.Entry) {
	t.Helper()
	if got := Firm(l); !slices.Equal(got, want) {
		t.Errorf("Firm(%v): %v; want %v", l, got, want)
	}
}

// wantPrefix holds it both ways: it doesn't say which one is the shorter.
func wantPrefix(t *testing.T, a, b []api.Told, want bool) {
	t.Helper()
	if got := Prefix(a, b); got != want {
		t.Errorf("Prefix(%v, %v): %v; want %v", a, b, got, want)
	}
	if got := Prefix(b, a); got != want {
		t.Errorf("Prefix(%v, %v): %v; want %v", b, a, got, want)
	}
}

func wantOnce(t *testing.T, l []api.Told, want bool) {
	t.Helper()
	if got := Once(l); got != want {
		t.Errorf("Once(%v): %v; want %v", l, got, want)
	}
}

func wantCast(t *testing.T, l []api.Told, cast []api.Entry, want bool) {
	t.Helper()
	if got := Cast(l, cast); got != want {
		t.Errorf("Cast(%v, %v): %v; want %v", l, cast, got, want)
	}
}

func wantAgree(t *testing.T, a []api.Entry, m int, b []api.Entry, n int, want bool) {
	t.Helper()
	if got := Agree(a, m, b, n); got != want {
		t.Errorf("Agree(%v, %d, %v, %d): %v; want %v", a, m, b, n, got, want)
	}
	if got := Agree(b, n, a, m); got != want {
		t.Errorf("Agree(%v, %d, %v, %d): %v; want %v", b, n, a, m, got, want)
	}
}

func TestP28_1Firm(t *testing.T) {
	wantFirm(t, nil)
	wantFirm(t, []api.Told{})
	for order := -1; order <= 3; order++ {
		for level := -1; level <= 3; level++ {
			e := of(1, order, level)
			if order == 1 && (level == 1 || level == 2) {
				wantFirm(t, told(e), e)
			} else {
				wantFirm(t, told(e))
			}
		}
	}
	a, b, c := of(9, api.Total, api.Strict), of(4, api.Total, api.Strong), of(6, api.Total, api.Strict)
	wantFirm(t, told(of(1, api.Any, api.Strict), a, of(2, api.Total, api.Weak), b, c, of(3, api.Timed, api.Strong)), a, b, c)
	// They come in the order in which they were told, whatever their places say, and each as often as it was told.
	wantFirm(t, []api.Told{{At: 9, E: c}, {At: 3, E: a}, {At: -1, E: b}, {E: a}}, c, a, b, a)
	for _, e := range odd() {
		if e.Order == api.Total && e.Level == api.Strict {
			wantFirm(t, told(e, a), e, a)
		} else {
			wantFirm(t, told(e, a), a)
		}
	}
}

func TestP28_1Prefix(t *testing.T) {
	wantPrefix(t, nil, nil, true)
	wantPrefix(t, nil, []api.Told{}, true)
	wantPrefix(t, nil, toldOf(1, 2), true)
	wantPrefix(t, toldOf(1, 2), toldOf(1, 2), true)
	wantPrefix(t, toldOf(1, 2), toldOf(1, 2, 3), true)
	wantPrefix(t, toldOf(1, 2), toldOf(1, 3), false)
	wantPrefix(t, toldOf(1, 2), toldOf(2, 1), false)
	wantPrefix(t, toldOf(2), toldOf(1, 2), false)
	wantPrefix(t, toldOf(1, 3), toldOf(1, 2, 3), false)
	wantPrefix(t, toldOf(1), toldOf(1, 1), true)
	// Only the firm ones count, and their places do not.
	x, y := of(7, api.Any, api.Strict), of(8, api.Total, api.Weak)
	wantPrefix(t, told(x, entryOf(1), y, entryOf(2)), toldOf(1, 2, 3), true)
	wantPrefix(t, told(x, entryOf(1), y, entryOf(3)), toldOf(1, 2, 3), false)
	wantPrefix(t, told(x, x, x), toldOf(1), true)
	wantPrefix(t, []api.Told{{At: 5, E: entryOf(1)}}, []api.Told{{At: 6, E: entryOf(1)}}, true)
	wantPrefix(t, told(y, y, y, entryOf(2)), toldOf(1, 2), false)
}

// Eq is that all is the same, the Stamp too.
func TestP28_1PrefixEq(t *testing.T) {
	for name, change := range changes() {
		a := entriesOf(1, 2, 3)
		b := slices.Clone(a)
		change(&b[1])
		want := name == "Order" // it is not firm any more: 3 stands where 2 did
		wantPrefix(t, told(a[:2]...), told(b[:2]...), want)
		wantPrefix(t, told(a...), told(b...), false)
		wantPrefix(t, told(a[:1]...), told(b...), true)
		wantPrefix(t, told(b...), told(b...), true)
	}
}

func TestP28_1Once(t *testing.T) {
	wantOnce(t, nil, true)
	wantOnce(t, []api.Told{}, true)
	wantOnce(t, toldOf(1), true)
	wantOnce(t, toldOf(1, 2, 3), true)
	wantOnce(t, toldOf(1, 1), false)
	wantOnce(t, toldOf(1, 2, 3, 2), false)
	wantOnce(t, toldOf(3, 1, 2, 3), false)
	for name, change := range changes() {
		e := entryOf(1)
		change(&e)
		want := name == "From" || name == "Boot" || name == "Seq"
		wantOnce(t, told(entryOf(1), e), want)
		wantOnce(t, told(entryOf(1), entryOf(5), e, entryOf(6)), want)
	}
	// All count, not the firm ones alone; places say nothing.
	wantOnce(t, told(of(1, api.Any, api.Weak), of(1, api.Any, api.Weak)), false)
	wantOnce(t, []api.Told{{At: 1, E: entryOf(1)}, {At: 1, E: entryOf(2)}}, true)
	wantOnce(t, []api.Told{{At: 1, E: entryOf(1)}, {At: 2, E: entryOf(1)}}, false)
	for i, e := range odd()[:5] {
		wantOnce(t, told(odd()[:5]...), true)
		wantOnce(t, append(told(odd()[:5]...), api.Told{At: i, E: e}), false)
	}
	// 1 11 is another one than 11 1.
	wantOnce(t, told(api.Entry{From: 1, Boot: 11, Seq: 1}, api.Entry{From: 1, Boot: 1, Seq: 11}, api.Entry{From: 11, Boot: 1, Seq: 1}), true)
}

func TestP28_1Cast(t *testing.T) {
	wantCast(t, nil, nil, true)
	wantCast(t, nil, entriesOf(1), true)
	wantCast(t, toldOf(1), nil, false)
	wantCast(t, toldOf(1), []api.Entry{}, false)
	wantCast(t, toldOf(1, 2), entriesOf(1, 2), true)
	wantCast(t, toldOf(2, 1), entriesOf(1, 3, 2), true)
	wantCast(t, toldOf(1, 2, 3), entriesOf(1, 2), false)
	wantCast(t, toldOf(3, 1, 2), entriesOf(1, 2), false)
	wantCast(t, toldOf(1, 1), entriesOf(1), true)
	for name, change := range changes() {
		e := entryOf(1)
		change(&e)
		want := name == "Stamp"
		wantCast(t, told(e), entriesOf(1), want)
		wantCast(t, toldOf(1), []api.Entry{e}, want)
		wantCast(t, told(entryOf(2), e, entryOf(3)), entriesOf(1, 2, 3), want)
		wantCast(t, told(e), append(entriesOf(1), e), true)
		wantCast(t, told(e), append([]api.Entry{e}, entriesOf(1)...), true)
		wantCast(t, told(entryOf(1), e), append([]api.Entry{e}, entriesOf(1)...), true)
	}
	for i, e := range odd() {
		wantCast(t, told(e), odd(), true)
		wantCast(t, told(odd()...), slices.Delete(odd(), i, i+1), false)
	}
	// All count, not the firm ones alone.
	wantCast(t, told(of(1, api.Any, api.Weak)), entriesOf(2), false)
}

func TestP28_1Agree(t *testing.T) {
	a, b := entriesOf(1, 2, 3, 4), entriesOf(1, 2, 5)
	for m := -1; m <= 5; m++ {
		for n := -1; n <= 4; n++ {
			wantAgree(t, a, m, b, n, m <= 2 || n <= 2)
			wantAgree(t, a, m, a[:3], n, true)
			wantAgree(t, a, m, nil, n, true)
		}
	}
	for _, huge := range []int{math.MaxInt64, 1 << 32, 1<<32 + 1, 5, 3} {
		wantAgree(t, a, huge, b, huge, false)
		wantAgree(t, a, huge, b, 2, true)
		wantAgree(t, a, huge, a, huge, true)
		wantAgree(t, a[:2], huge, b, huge, true)
		wantAgree(t, a, huge, b, -huge, true)
	}
	wantAgree(t, a, math.MinInt64, b, math.MaxInt64, true)
	wantAgree(t, nil, 3, nil, 3, true)
	wantAgree(t, nil, 3, []api.Entry{}, -3, true)
	wantAgree(t, entriesOf(2), 1, entriesOf(1), 1, false)
	wantAgree(t, entriesOf(2), 0, entriesOf(1), 1, true)
	// None of them need be firm.
	wantAgree(t, []api.Entry{of(1, 0, 0)}, 1, []api.Entry{of(2, 0, 0)}, 1, false)
	for name, change := range changes() {
		b := slices.Clone(a)
		change(&b[1])
		for n := range 5 {
			if got := Agree(a, n, b, n); got != (n < 2) {
				t.Errorf("Agree of %d, where %s is another one: %v", n, name, got)
			}
		}
	}
}

// Lists are long, and each call ends.
func TestP0_1LongLists(t *testing.T) {
	const count = 100000
	var es []api.Entry
	for k := range int64(count) {
		es = append(es, api.Entry{From: int(k%7) + 1, Boot: 1, Seq: k/7 + 1, Order: api.Total, Level: api.Strong})
	}
	l := told(es...)
	if got := Firm(l); len(got) != count {
		t.Errorf("Firm: %d", len(got))
	}
	if !Prefix(l, l[:count-1]) || !Once(l) || !Cast(l, es) || !Agree(es, count, es, count) {
		t.Error("what is right is not")
	}
	wrong := slices.Clone(l)
	wrong[count-1].E = es[0]
	if Prefix(l, wrong) || Once(wrong) || Cast(l, es[:count-1]) || Agree(es, count, Firm(wrong), count) {
		t.Error("what is wrong is not")
	}
}

// What is handed in is not changed, its spare room neither; what comes is new memory.
func TestP0_3Lists(t *testing.T) {
	room := toldOf(1, 2, 3, 4)
	was := slices.Clone(room)
	l := room[:2]
	es := entriesOf(1, 2, 3, 4)
	esWas := slices.Clone(es)
	got := Firm(l)
	Prefix(l, l[:1])
	Once(l)
	Cast(l, es[:2])
	Agree(es[:2], 9, es[:3], 9)
	if !slices.Equal(room, was) || !slices.Equal(es, esWas) {
		t.Errorf("%v, %v; want %v, %v", room, es, was, esWas)
	}
	again := Firm(l)
	clear(got[:cap(got)])
	if !slices.Equal(room, was) || !slices.Equal(again, entriesOf(1, 2)) {
		t.Errorf("%v, %v", room, again)
	}
}

func same(a, b api.Entry) bool { return a.From == b.From && a.Boot == b.Boot && a.Seq == b.Seq }

// hold holds all calls against the chapter's words, one entry beside the other.
func hold(t *testing.T, a, b []api.Told, cast []api.Entry, m, n int) (prefix, once, wasCast, agree bool) {
	t.Helper()
	isFirm := func(x api.Told) bool { return x.E.Order == 1 && (x.E.Level == 1 || x.E.Level == 2) }
	var fa, fb, ea, eb []api.Entry
	for _, x := range a {
		ea = append(ea, x.E)
		if isFirm(x) {
			fa = append(fa, x.E)
		}
	}
	for _, x := range b {
		eb = append(eb, x.E)
		if isFirm(x) {
			fb = append(fb, x.E)
		}
	}
	wantFirm(t, a, fa...)
	short, long := fa, fb
	if len(fa) > len(fb) {
		short, long = fb, fa
	}
	prefix, once, wasCast, agree = true, true, true, true
	for i, e := range short {
		prefix = prefix && long[i] == e
	}
	wantPrefix(t, a, b, prefix)
	for i, x := range a {
		once = once && !slices.ContainsFunc(a[:i], func(y api.Told) bool { return same(x.E, y.E) })
		wasCast = wasCast && slices.ContainsFunc(cast, func(y api.Entry) bool {
			return same(x.E, y) && x.E.Order == y.Order && x.E.Level == y.Level && x.E.Data == y.Data
		})
	}
	wantOnce(t, a, once)
	wantCast(t, a, cast, wasCast)
	for i := 0; i < m && i < n && i < len(ea) && i < len(eb); i++ {
		agree = agree && ea[i] == eb[i]
	}
	wantAgree(t, ea, m, eb, n, agree)
	return prefix, once, wasCast, agree
}

// draw gives two lists that have much in common, and what was cast.
func draw(pick func(n int) int) (a, b []api.Told, cast []api.Entry) {
	one := func() api.Entry {
		return api.Entry{From: 1 + pick(2), Boot: int64(1 + pick(2)), Seq: int64(1 + pick(9)), Order: 1 - pick(4)/3, Level: pick(3), Stamp: int64(pick(2)), Data: "ab"[pick(2):]}
	}
	for range pick(7) {
		e := one()
		a = append(a, api.Told{At: pick(5), E: e})
		cast = append(cast, e)
	}
	b = slices.Clone(a)
	for range pick(3) {
		switch i := pick(len(b) + 1); {
		case i == len(b):
			b = append(b, api.Told{At: pick(5), E: one()})
		case pick(2) == 0:
			b[i].E.Level = pick(3)
		default:
			b = slices.Delete(b, i, i+1)
		}
	}
	for i := range cast {
		switch pick(20) {
		case 0:
			cast[i] = one()
		case 1, 2, 3:
			cast[i].Stamp = 7
		}
	}
	return a, b, cast
}

func TestP28_1Random(t *testing.T) {
	r := rand.New(rand.NewSource(28))
	var yes, no [4]int
	for range 20000 {
		a, b, cast := draw(r.Intn)
		w, x, y, z := hold(t, a, b, cast, r.Intn(9)-1, r.Intn(9)-1)
		for i, ok := range []bool{w, x, y, z} {
			if ok {
				yes[i]++
			} else {
				no[i]++
			}
		}
	}
	t.Log(yes, no)
	// The lists are such that each answer comes often.
	for i := range yes {
		if yes[i] < 1000 || no[i] < 1000 {
			t.Errorf("the call %d told true %d times, false %d times", i, yes[i], no[i])
		}
	}
}

func FuzzJudge(f *testing.F) {
	f.Add([]byte{3, 1, 1, 4, 1, 1, 0, 0, 2}, 2, 3)
	f.Add([]byte{6, 0, 0, 1, 2, 2, 1, 1, 4, 0, 0, 1, 2, 2, 1, 1, 4}, 9, -1)
	f.Fuzz(func(t *testing.T, bytes []byte, m, n int) {
		a, b, cast := draw(func(n int) int {
			if len(bytes) == 0 {
				return 0
			}
			k := int(bytes[0])
			bytes = bytes[1:]
			return k % n
		})
		hold(t, a, b, cast, m, n)
		hold(t, b, a, cast, m, n)
	})
}
