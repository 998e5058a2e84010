package table

import (
	"hash/crc32"
	"math/rand"
	"slices"
	"sort"
	"strconv"
	"strings"
	"testing"

	"curfew/api"
	"curfew/entry"
)

// model is what was done, by the words of the chapter: all is asked anew each time.
type model []string

// cut goes over the bytes one by one.
func cut(s string) (string, string, bool) {
	for i := range len(s) {
		if s[i] == '=' {
			return s[:i], s[i+1:], i > 0
		}
	}
	return "", "", false
}

func (m model) get(name string) (string, bool) {
	for i := len(m) - 1; i >= 0; i-- {
		if n, text, ok := cut(m[i]); ok && n == name {
			return text, text != ""
		}
	}
	return "", false
}

func (m model) names() []string {
	var l []string
	for _, s := range m {
		name, _, ok := cut(s)
		if _, stands := m.get(name); ok && stands && !slices.Contains(l, name) {
			l = append(l, name)
		}
	}
	sort.Strings(l)
	return l
}

// sum writes the length of each text as a byte: it is 2 n, below 128 as a name and a word are at most 16 bytes long.
func (m model) sum() uint32 {
	var b []byte
	for _, name := range m.names() {
		text, _ := m.get(name)
		for _, s := range []string{name, text} {
			b = append(append(b, byte(2*len(s))), s...)
		}
	}
	return crc32.ChecksumIEEE(b)
}

func e(data string) api.Entry { return api.Entry{From: 1, Boot: 1, Seq: 1, Data: data} }

// with gives a table of the words, in that order.
func with(t *testing.T, words ...string) *Table {
	t.Helper()
	x := New()
	for _, s := range words {
		if !x.Do(e(s)) {
			t.Fatalf("Do(%q): false", s)
		}
	}
	return x
}

// check holds a table against the model, for the names that were ever spoken of and some others.
func check(t *testing.T, x *Table, m model) {
	t.Helper()
	asked := []string{"", "=", "nothing", "a", "a=", "\x00", "\xff"}
	for _, s := range m {
		name, text, _ := cut(s)
		asked = append(asked, s, name, text, name+"=", name+"\x00", "="+name)
	}
	for _, name := range asked {
		got, ok := x.Get(name)
		if want, stands := m.get(name); got != want || ok != stands {
			t.Fatalf("Get(%q) behind %q: %q, %v; want %q, %v", name, m, got, ok, want, stands)
		}
	}
	if got, want := x.Names(), m.names(); !slices.Equal(got, want) {
		t.Fatalf("Names behind %q: %q; want %q", m, got, want)
	}
	if got, want := x.Sum(), m.sum(); got != want {
		t.Fatalf("Sum behind %q: %x; want %x", m, got, want)
	}
}

func wantWord(t *testing.T, s, name, text string, ok bool) {
	t.Helper()
	if n, x, is := Word(s); n != name || x != text || is != ok {
		t.Errorf("Word(%q): %q, %q, %v; want %q, %q, %v", s, n, x, is, name, text, ok)
	}
}

func TestP15_1Word(t *testing.T) {
	for _, c := range []struct{ s, name, text string }{
		{"a=b", "a", "b"}, {"a=", "a", ""}, {"a==", "a", "="}, {"a=b=c", "a", "b=c"}, {"ab=cd", "ab", "cd"}, {"a=b=", "a", "b="},
		{" = ", " ", " "}, {"\x00=\x00", "\x00", "\x00"}, {"\xff=\xfe", "\xff", "\xfe"}, {"\u00e4=\u20ac", "\u00e4", "\u20ac"}, {"\n=\n", "\n", "\n"},
		{"0123456789abcde=", "0123456789abcde", ""}, {"a=0123456789abcd", "a", "0123456789abcd"},
	} {
		wantWord(t, c.s, c.name, c.text, true)
	}
	for _, s := range []string{"", "=", "==", "=b", "=b=c", "==c", "a", "ab", "a b", "a:b", "\u00e4", "\xff", "\x00", "a\uff1db", "0123456789abcdef"} {
		wantWord(t, s, "", "", false)
	}
}

// A Word may be longer than what an entry has room for.
func TestP15_1WordThatIsLong(t *testing.T) {
	for _, n := range []int{16, 17, 1 << 16, 1<<16 + 1, 1 << 20} {
		long := strings.Repeat("w", n)
		wantWord(t, long+"="+long, long, long, true)
		wantWord(t, long+"=", long, "", true)
		wantWord(t, "a="+long, "a", long, true)
		wantWord(t, long, "", "", false)
		wantWord(t, "="+long, "", "", false)
	}
}

// All texts of up to five of some bytes, and all of two bytes.
func TestP15_1WordOfShortTexts(t *testing.T) {
	bytes := []string{"=", "a", "b", "\x00", "\xc3", "\xa9"}
	var tryAll func(s string)
	tryAll = func(s string) {
		checkWord(t, s)
		if len(s) < 5 {
			for _, c := range bytes {
				tryAll(s + c)
			}
		}
	}
	tryAll("")
	for i := range 1 << 16 {
		checkWord(t, string([]byte{byte(i), byte(i >> 8)}))
	}
}

// checkWord holds Word against the bytes one by one; where there is none, nothing is answered.
func checkWord(t *testing.T, s string) {
	t.Helper()
	name, text, ok := cut(s)
	if !ok {
		name, text = "", ""
	}
	wantWord(t, s, name, text, ok)
}

func TestP15_1Do(t *testing.T) {
	x := New()
	var m model
	check(t, x, m)
	for _, s := range []string{"b=1", "a=2", "b=3", "b=3", "c=9", "a=x=y", "c=", "c=4", "b=", "b=", "a=2", "d=", "aa=1", "a\x00=1", "a==", "c=", "aa=", "a\x00=", "a="} {
		if !x.Do(e(s)) {
			t.Fatalf("Do(%q) behind %q: false", s, m)
		}
		m = append(m, s)
		check(t, x, m)
	}
	if len(x.Names()) != 0 || x.Sum() != 0 {
		t.Errorf("all was taken away: %q, %x", x.Names(), x.Sum())
	}
}

func TestP15_1DoOfNoWord(t *testing.T) {
	x := with(t, "a=1", "b=2")
	for _, s := range []string{"", "=", "==", "=1", "=a=1", "a", "b", "ab", "\x00", "\xff", "0123456789abcdef", "nothing"} {
		if x.Do(e(s)) {
			t.Errorf("Do(%q): true", s)
		}
		check(t, x, model{"a=1", "b=2"})
	}
}

// As long as Data may be, a name and a word may be; Data of one byte more is not done.
func TestP15_1DoOfLongData(t *testing.T) {
	for _, n := range []int{15, 16, 17, 18, 256, 1 << 16, 1 << 20} {
		for _, at := range []int{1, 2, 7, 14} {
			s := strings.Repeat("n", at) + "=" + strings.Repeat("w", n-at-1)
			x := with(t, "a=1")
			m := model{"a=1"}
			if got := x.Do(e(s)); got != (n <= 16) {
				t.Errorf("Do, Data of %d bytes: %v", n, got)
			}
			if n <= 16 {
				m = append(m, s)
			}
			check(t, x, m)
		}
	}
	s := "0123456789abcde="
	x := with(t, s)
	check(t, x, model{s})
}

// bounds are an entry's numbers, and from what to what each may be.
func bounds() []struct {
	name      string
	low, high int64
	set       func(e *api.Entry, n int64)
} {
	return []struct {
		name      string
		low, high int64
		set       func(e *api.Entry, n int64)
	}{
		{"From", 1, 7, func(e *api.Entry, n int64) { e.From = int(n) }},
		{"Boot", 1, 1 << 40, func(e *api.Entry, n int64) { e.Boot = n }},
		{"Seq", 1, 1 << 40, func(e *api.Entry, n int64) { e.Seq = n }},
		{"Order", 0, 2, func(e *api.Entry, n int64) { e.Order = int(n) }},
		{"Level", 0, 2, func(e *api.Entry, n int64) { e.Level = int(n) }},
		{"Stamp", 0, 1 << 40, func(e *api.Entry, n int64) { e.Stamp = n }},
	}
}

// What may not be is not done: it neither puts a word, nor puts another one, nor takes one away.
func TestP15_1DoOfWrongEntries(t *testing.T) {
	for _, f := range bounds() {
		for _, n := range []int64{f.low - 1, f.low, f.low + 1, f.high - 1, f.high, f.high + 1, -1 << 62, 1 << 62} {
			for _, s := range []string{"a=7", "a=", "b=7", "b="} {
				x, m := with(t, "a=1"), model{"a=1"}
				one := e(s)
				f.set(&one, n)
				may := n >= f.low && n <= f.high
				if got := x.Do(one); got != may {
					t.Errorf("Do(%q), %s %d: %v", s, f.name, n, got)
				}
				if may {
					m = append(m, s)
				}
				check(t, x, m)
			}
		}
	}
	if x := with(t, "a=1"); x.Do(api.Entry{}) || x.Do(api.Entry{Data: "a=7"}) {
		t.Error("Do of an Entry that has nothing but Data: true")
	}
}

// Nothing but its Data counts of what may be: a Same one, an earlier one, one of another process is done as well.
func TestP15_1DoLooksAtDataAlone(t *testing.T) {
	l := []api.Entry{
		{From: 7, Boot: 9, Seq: 9, Order: 2, Level: 2, Stamp: 99, Data: "a=1"},
		{From: 7, Boot: 9, Seq: 9, Order: 2, Level: 2, Stamp: 99, Data: "a=2"},
		{From: 7, Boot: 9, Seq: 8, Order: 1, Level: 1, Stamp: 98, Data: "a=3"},
		{From: 2, Boot: 1, Seq: 1, Data: "b=4"},
		{From: 7, Boot: 9, Seq: 9, Order: 2, Level: 2, Stamp: 99, Data: "a=1"},
	}
	x := New()
	var m model
	for _, one := range l {
		if !x.Do(one) {
			t.Errorf("Do(%v): false", one)
		}
		m = append(m, one.Data)
		check(t, x, m)
	}
}

func TestP15_1Get(t *testing.T) {
	x := with(t, "a=1", "ab=2", "\u00e4=\u20ac", "\xff=\x00", "b=x", "b=", "A= ")
	for name, want := range map[string]string{"a": "1", "ab": "2", "\u00e4": "\u20ac", "\xff": "\x00", "A": " "} {
		if got, ok := x.Get(name); got != want || !ok {
			t.Errorf("Get(%q): %q, %v; want %q, true", name, got, ok, want)
		}
	}
	for _, name := range []string{"", "b", "B", "=", "a=", "a=1", "1", " a", "a ", "a\x00", "\u00c4", "\xc3", "\x00", strings.Repeat("a", 16), strings.Repeat("a", 1<<20)} {
		if got, ok := x.Get(name); got != "" || ok {
			t.Errorf("Get(%q): %q, %v", name, got, ok)
		}
	}
}

// Rising by bytes, whatever the order in which they were put.
func TestP15_1NamesRise(t *testing.T) {
	want := []string{"\x00", " ", "-1", "1", "10", "2", "A", "B", "Z", "_", "a", "a\x00", "a\x00a", "aB", "aa", "b", "z", "\x80", "\u00e4", "\u20ac", "\xff", "\xff\xff"}
	r := rand.New(rand.NewSource(15))
	for range 50 {
		x := New()
		var m model
		for _, i := range r.Perm(len(want)) {
			m = append(m, want[i]+"=w")
			x.Do(e(want[i] + "=w"))
		}
		if got := x.Names(); !slices.Equal(got, want) {
			t.Fatalf("Names: %q; want %q", got, want)
		}
		check(t, x, m)
	}
}

func TestP15_1SumKnown(t *testing.T) {
	for _, c := range []struct {
		words []string
		bytes string
	}{
		{nil, ""},
		{[]string{"a=1"}, "\x02a\x021"},
		{[]string{"b=3", "a=2"}, "\x02a\x022\x02b\x023"},
		{[]string{"b=1", "a=2", "b=3", "c=9", "c="}, "\x02a\x022\x02b\x023"},
		{[]string{"a=bc"}, "\x02a\x04bc"},
		{[]string{"ab=c"}, "\x04ab\x02c"},
		{[]string{"a=b=c"}, "\x02a\x06b=c"},
		{[]string{"n=0123456789abcd", "0123456789abcd=n"}, "\x1c0123456789abcd\x02n\x02n\x1c0123456789abcd"},
		{[]string{"\xff=\x00", "\x00=\xff"}, "\x02\x00\x02\xff\x02\xff\x02\x00"},
	} {
		if got, want := with(t, c.words...).Sum(), crc32.ChecksumIEEE([]byte(c.bytes)); got != want {
			t.Errorf("Sum of %q: %x; want %x", c.words, got, want)
		}
	}
	if got := with(t, "a=1").Sum(); got != 0xa1b0d438 {
		t.Errorf("Sum of a=1: %x", got)
	}
}

// The sum is of what stands there now, not of how it came to that.
func TestP15_1SumHangsOnWhatStandsThere(t *testing.T) {
	words := []string{"a=1", "b=2", "ab=12", "c=", "d=4"}
	want := with(t, words...).Sum()
	r := rand.New(rand.NewSource(1515))
	for range 50 {
		x := New()
		for _, i := range r.Perm(len(words)) {
			name, _, _ := cut(words[i])
			x.Do(e(name + "=old"))
			x.Do(e("gone=1"))
			x.Do(e(words[i]))
		}
		x.Do(e("gone="))
		if got := x.Sum(); got != want {
			t.Fatalf("Sum: %x; want %x", got, want)
		}
	}
}

// script does what next chooses, and holds the table against the model behind each Do.
func script(t *testing.T, next func(n int) int, steps int) {
	t.Helper()
	x := New()
	var m model
	for range steps {
		one := anyEntry(next)
		_, _, ok := cut(one.Data)
		want := ok && entry.May(one)
		if got := x.Do(one); got != want {
			t.Fatalf("Do(%v) behind %q: %v", one, m, got)
		}
		if want {
			m = append(m, one.Data)
		}
		check(t, x, m)
	}
}

// anyEntry gives one of few names, now and then with an empty word, with no word, or one that may not be.
func anyEntry(next func(n int) int) api.Entry {
	one := api.Entry{From: 1 + next(7), Boot: int64(1 + next(3)), Seq: int64(1 + next(9)), Order: next(3), Level: next(3), Stamp: int64(next(9))}
	for range 1 + next(3) {
		one.Data += []string{"a", "b", "=", "\xff", "\u00e4"}[next(5)]
	}
	one.Data += []string{"=", "=", "=", ""}[next(4)]
	for range next(4) {
		one.Data += []string{"1", "2", "=", "\x00"}[next(4)]
	}
	switch next(20) {
	case 0:
		one.From = next(10) - 1
	case 1:
		one.Data = "a=0123456789abcdef"
	}
	return one
}

func TestP15_1Scripts(t *testing.T) {
	for seed := range int64(150) {
		script(t, rand.New(rand.NewSource(seed)).Intn, 60)
	}
}

func TestP15_1NilTable(t *testing.T) {
	var x *Table
	for range 2 {
		for _, s := range []string{"a=b", "a=", "", "=b"} {
			if x.Do(e(s)) {
				t.Errorf("Do(%q) of a nil Table: true", s)
			}
		}
		for _, name := range []string{"a", ""} {
			if got, ok := x.Get(name); got != "" || ok {
				t.Errorf("Get(%q) of a nil Table: %q, %v", name, got, ok)
			}
		}
		if l := x.Names(); len(l) != 0 || x.Sum() != 0 {
			t.Errorf("nil Table: %q, %x", l, x.Sum())
		}
	}
}

func TestP0_1ZeroTable(t *testing.T) {
	check(t, new(Table), nil)
	x := new(Table)
	if !x.Do(e("a=")) {
		t.Error("Do(\"a=\") of a zero Table: false")
	}
	check(t, x, model{"a="})
	if !x.Do(e("a=1")) {
		t.Error("Do(\"a=1\") of a zero Table: false")
	}
	check(t, x, model{"a=", "a=1"})
	if New() == nil {
		t.Error("New: nil")
	}
}

// Of very many names each is gone over once only: else this would take minutes.
func TestP0_1ManyNames(t *testing.T) {
	const many = 300000
	x := New()
	var b []byte
	for i := range many {
		name := strconv.Itoa(2000000 - i)
		if !x.Do(e(name + "=" + strconv.Itoa(i))) {
			t.Fatalf("Do, name %d: false", i)
		}
		last := strconv.Itoa(many - 1 - i)
		b = append(b, "\x0e"+strconv.Itoa(2000000-many+1+i)...)
		b = append(append(b, byte(2*len(last))), last...)
	}
	names := x.Names()
	if len(names) != many || !slices.IsSorted(names) {
		t.Errorf("Names: %d of them", len(names))
	}
	x.Do(e("2000000=gone"))
	x.Do(e("2000000=0"))
	if got, want := x.Sum(), crc32.ChecksumIEEE(b); got != want {
		t.Errorf("Sum: %x; want %x", got, want)
	}
	for _, name := range names {
		x.Do(e(name + "="))
	}
	check(t, x, nil)
}

func TestP0_3AnswersAreNewMemory(t *testing.T) {
	x, m := with(t, "a=1", "b=2", "c=3"), model{"a=1", "b=2", "c=3"}
	a, b := x.Names(), x.Names()
	clear(a[:cap(a)])
	if !slices.Equal(b, m.names()) {
		t.Errorf("Names: two answers share memory: %q", b)
	}
	check(t, x, m)
	x.Do(e("a="))
	x.Do(e("d=4"))
	if !slices.Equal(b, m.names()) {
		t.Errorf("Names: %q behind a later Do", b)
	}
	clear(b[:cap(b)])
	check(t, x, append(m, "a=", "d=4"))
}

func TestP0_5TablesAreTheirOwn(t *testing.T) {
	a, b := with(t, "a=1"), with(t, "b=2")
	a.Do(e("c=3"))
	b.Do(e("a="))
	for range 3 {
		check(t, a, model{"a=1", "c=3"})
		check(t, b, model{"b=2"})
		check(t, New(), nil)
	}
}

func FuzzTable(f *testing.F) {
	f.Add([]byte{})
	f.Add([]byte("a=b"))
	f.Add([]byte("\x00\x01\x02\x03\x04\x05\x06\x07\x08\x09\x0a"))
	f.Add([]byte("the quick brown fox jumps over the lazy dog"))
	f.Fuzz(func(t *testing.T, b []byte) {
		checkWord(t, string(b))
		next := func(n int) int {
			if len(b) == 0 {
				return 0
			}
			c := int(b[0])
			b = b[1:]
			return c % n
		}
		script(t, next, min(60, len(b)/8+1))
	})
}
