package wire

import (
	"bytes"
	"hash/crc32"
	"math"
	"math/rand"
	"slices"
	"strings"
	"testing"

	"curfew/api"
)

const greatest = int64(1) << 40 // of starts, of views, of numbers, and of times

// least is the message of which each field is as low as it may be, most the one of which each is as high.
func least() api.Msg { return api.Msg{Kind: 1, From: 1, To: 2, Boot: 1} }

func most() api.Msg {
	return api.Msg{
		Kind: 13, From: 7, To: 6, Boot: greatest, View: greatest, Last: greatest, Members: 127,
		At: 60, Entries: slices.Repeat([]api.Entry{mostEntry()}, 60), Commit: 60, Num: greatest, Clock: greatest, Yes: true,
	}
}

func leastEntry() api.Entry { return api.Entry{From: 1, Boot: 1, Seq: 1} }

func mostEntry() api.Entry {
	return api.Entry{From: 7, Boot: greatest, Seq: greatest, Order: 2, Level: 2, Stamp: greatest, Data: strings.Repeat("\xff", 16)}
}

// some has two entries that differ in all, and no two numbers alike but those that must be.
func some() api.Msg {
	return api.Msg{
		Kind: 5, From: 3, To: 4, Boot: 70, View: 9000, Last: 8999, Members: 21,
		At: 2, Entries: []api.Entry{leastEntry(), mostEntry()}, Commit: 6, Num: 1 << 30, Clock: 63, Yes: true,
	}
}

// field is one of a message's numbers, and from what to what it may be.
type field struct {
	name      string
	low, high int64
	set       func(m *api.Msg, n int64)
}

// fields has From and To as they may be beside the To and the From of least, most and some.
func fields() []field {
	return []field{
		{"Kind", 1, 13, func(m *api.Msg, n int64) { m.Kind = int(n) }},
		{"From", 1, 7, func(m *api.Msg, n int64) { m.From = int(n) }},
		{"To", 1, 7, func(m *api.Msg, n int64) { m.To = int(n) }},
		{"Boot", 1, greatest, func(m *api.Msg, n int64) { m.Boot = n }},
		{"View", 0, greatest, func(m *api.Msg, n int64) { m.View = n }},
		{"Last", 0, greatest, func(m *api.Msg, n int64) { m.Last = n }},
		{"Members", 0, 127, func(m *api.Msg, n int64) { m.Members = int(n) }},
		{"At", 0, 60, func(m *api.Msg, n int64) { m.At = int(n) }},
		{"Commit", 0, 60, func(m *api.Msg, n int64) { m.Commit = int(n) }},
		{"Num", 0, greatest, func(m *api.Msg, n int64) { m.Num = n }},
		{"Clock", 0, greatest, func(m *api.Msg, n int64) { m.Clock = n }},
	}
}

// numbersAbout are those next to both bounds of a field, and those that a narrower number would take for good ones.
func numbersAbout(f field) []int64 {
	var l []int64
	for d := int64(-3); d <= 3; d++ {
		l = append(l, d, f.low+d, f.high+d, (f.low+f.high)/2+d, 8+d, 64+d, 128+d, 256+d, 1<<16+d, 1<<31+d, 1<<32+d, 1<<40+d, -1<<8+d, -1<<32+d, -1<<40+d, 1<<62+d, -1<<62+d)
	}
	for d := range int64(4) {
		l = append(l, math.MaxInt64-d, math.MinInt64+d)
	}
	slices.Sort(l)
	return slices.Compact(l)
}

func with(m api.Msg, f field, n int64) api.Msg {
	f.set(&m, n)
	return m
}

func withEntries(m api.Msg, es ...api.Entry) api.Msg {
	m.Entries = es
	return m
}

// wrongEntries are each beyond one bound of an entry.
func wrongEntries() []api.Entry {
	var l []api.Entry
	for _, change := range []func(e *api.Entry){
		func(e *api.Entry) { *e = api.Entry{} },
		func(e *api.Entry) { e.From = 0 }, func(e *api.Entry) { e.From = 8 },
		func(e *api.Entry) { e.Boot = 0 }, func(e *api.Entry) { e.Boot = greatest + 1 },
		func(e *api.Entry) { e.Seq = 0 }, func(e *api.Entry) { e.Seq = greatest + 1 },
		func(e *api.Entry) { e.Order = -1 }, func(e *api.Entry) { e.Order = 3 },
		func(e *api.Entry) { e.Level = -1 }, func(e *api.Entry) { e.Level = 3 },
		func(e *api.Entry) { e.Stamp = -1 }, func(e *api.Entry) { e.Stamp = greatest + 1 },
		func(e *api.Entry) { e.Data = strings.Repeat("d", 17) },
	} {
		e := mostEntry()
		change(&e)
		l = append(l, e)
	}
	return l
}

// randomMsg gives one that may be, with small and with great numbers.
func randomMsg(r *rand.Rand) api.Msg {
	m := least()
	for _, f := range fields() {
		n := f.low + r.Int63n(f.high-f.low+1)
		if r.Intn(2) == 0 {
			n = f.low + r.Int63n(min(f.high-f.low+1, 200))
		}
		f.set(&m, n)
	}
	m.To = 1 + (m.From+r.Intn(6))%7
	m.Yes = r.Intn(2) == 0
	m.Entries = randomEntries(r, r.Intn(5))
	return m
}

func randomEntries(r *rand.Rand, n int) []api.Entry {
	l := make([]api.Entry, n)
	for i := range l {
		data := make([]byte, r.Intn(17))
		r.Read(data)
		l[i] = api.Entry{From: 1 + r.Intn(7), Boot: 1 + r.Int63n(greatest), Seq: 1 + r.Int63n(200), Order: r.Intn(3), Level: r.Intn(3), Stamp: r.Int63n(greatest + 1), Data: string(data)}
	}
	return l
}

// sevens writes a number by the words of the chapter of num.
func sevens(n int64) []byte {
	u := uint64(n) * 2
	if n < 0 {
		u = uint64(-(n+1))*2 + 1
	}
	var b []byte
	for u > 127 {
		b = append(b, byte(u%128)+128)
		u /= 128
	}
	return append(b, byte(u))
}

func rawEntries(l []api.Entry) []byte {
	var b []byte
	for _, e := range l {
		for _, n := range []int64{int64(e.From), e.Boot, e.Seq, int64(e.Order), int64(e.Level), e.Stamp, int64(len(e.Data))} {
			b = append(b, sevens(n)...)
		}
		b = append(b, e.Data...)
	}
	return b
}

// rawNumbers are those of a message but the last two, each as bytes.
func rawNumbers(m api.Msg) [][]byte {
	return [][]byte{
		sevens(int64(m.Kind)), sevens(int64(m.From)), sevens(int64(m.To)), sevens(m.Boot), sevens(m.View), sevens(m.Last),
		sevens(int64(m.Members)), sevens(int64(m.At)), sevens(int64(m.Commit)), sevens(m.Num), sevens(m.Clock),
	}
}

// inner is what is sealed, with any Yes and any count, whether or not the message may be.
func inner(m api.Msg, yes, count int64) []byte {
	return slices.Concat(slices.Concat(rawNumbers(m)...), sevens(yes), sevens(count), rawEntries(m.Entries))
}

func innerOf(m api.Msg) []byte {
	yes := int64(0)
	if m.Yes {
		yes = 1
	}
	return inner(m, yes, int64(len(m.Entries)))
}

func seal(b []byte) []byte {
	sum := crc32.ChecksumIEEE(b)
	return slices.Concat(b, []byte{byte(sum >> 24), byte(sum >> 16), byte(sum >> 8), byte(sum)})
}

func raw(m api.Msg) []byte { return seal(innerOf(m)) }

func isSame(a, b api.Msg) bool {
	return slices.Equal(a.Entries, b.Entries) && a.Yes == b.Yes && slices.EqualFunc(rawNumbers(a), rawNumbers(b), bytes.Equal)
}

func isZero(m api.Msg) bool { return len(m.Entries) == 0 && isSame(m, api.Msg{}) }

func wantNone(t *testing.T, b []byte) {
	t.Helper()
	if m, err := Decode(b); !isZero(m) || err != api.ErrForm {
		t.Errorf("Decode(%x): %v, %d; want a zero Msg, ErrForm", b, m, err)
	}
}

func wantMsg(t *testing.T, b []byte, want api.Msg) {
	t.Helper()
	if m, err := Decode(b); !isSame(m, want) || err != api.OK {
		t.Errorf("Decode(%x): %v, %d; want %v, OK", b, m, err, want)
	}
}

// wantGood holds all that is promised of a message that may be.
func wantGood(t *testing.T, m api.Msg) {
	t.Helper()
	if !May(m) {
		t.Errorf("May(%v): false", m)
	}
	if b := Encode(m); !bytes.Equal(b, raw(m)) {
		t.Errorf("Encode(%v): %x; want %x", m, b, raw(m))
	}
	wantMsg(t, raw(m), m)
}

// wantWrong holds all that is promised of a message that may not be.
func wantWrong(t *testing.T, m api.Msg) {
	t.Helper()
	if May(m) {
		t.Errorf("May(%v): true", m)
	}
	if b := Encode(m); b != nil {
		t.Errorf("Encode(%v): %x; want nil", m, b)
	}
	wantNone(t, raw(m))
}

func wantEq(t *testing.T, a, b api.Msg, want bool) {
	t.Helper()
	if Eq(a, b) != want || Eq(b, a) != want {
		t.Errorf("Eq(%v, %v): %v, the other way round %v; want %v", a, b, Eq(a, b), Eq(b, a), want)
	}
}

func TestP16_1EachNumber(t *testing.T) {
	for _, m := range []api.Msg{least(), some(), withEntries(most(), mostEntry())} {
		for _, f := range fields() {
			for _, n := range numbersAbout(f) {
				x := with(m, f, n)
				switch {
				case x.From == x.To, n < f.low, n > f.high:
					wantWrong(t, x)
				default:
					wantGood(t, x)
				}
			}
		}
	}
	wantWrong(t, api.Msg{})
}

func TestP16_1EachKindAndPair(t *testing.T) {
	for kind := -1; kind <= 15; kind++ {
		for from := -1; from <= 9; from++ {
			for to := -1; to <= 9; to++ {
				m := api.Msg{Kind: kind, From: from, To: to, Boot: 5}
				if kind >= 1 && kind <= 13 && from >= 1 && from <= 7 && to >= 1 && to <= 7 && from != to {
					wantGood(t, m)
				} else {
					wantWrong(t, m)
				}
			}
		}
	}
}

func TestP16_1EachTeam(t *testing.T) {
	for members := -300; members <= 300; members++ {
		m := some()
		m.Members = members
		if members >= 0 && members <= 127 {
			wantGood(t, m)
		} else {
			wantWrong(t, m)
		}
	}
}

func TestP16_1HowManyEntries(t *testing.T) {
	r := rand.New(rand.NewSource(16))
	for _, n := range []int{0, 1, 2, 3, 30, 58, 59, 60, 61, 62, 63, 64, 65, 120, 128, 256, 300, 1 << 10} {
		for _, m := range []api.Msg{least(), some(), most()} {
			for _, es := range [][]api.Entry{slices.Repeat([]api.Entry{leastEntry()}, n), slices.Repeat([]api.Entry{mostEntry()}, n), randomEntries(r, n)} {
				if m := withEntries(m, es...); n <= 60 {
					wantGood(t, m)
				} else {
					wantWrong(t, m)
				}
			}
		}
	}
}

func TestP16_1EachEntryMayBe(t *testing.T) {
	for _, e := range wrongEntries() {
		wantWrong(t, withEntries(some(), e))
		for at := range 60 {
			m := most()
			m.Entries[at] = e
			if May(m) || Encode(m) != nil {
				t.Errorf("May, entry %d is %v", at, e)
			}
			wantNone(t, raw(m))
		}
		wantWrong(t, withEntries(least(), slices.Repeat([]api.Entry{e}, 61)...))
	}
}

// What a kind does not say is not asked: nor whether At, Commit and Entries fit one another, or From is a member.
func TestP16_1FieldsAreAskedAlone(t *testing.T) {
	for kind := 1; kind <= 13; kind++ {
		m := most()
		m.Kind = kind
		wantGood(t, m)
		m.Members, m.View, m.Entries = 0, 0, slices.Repeat([]api.Entry{leastEntry()}, 60)
		wantGood(t, m)
		wantGood(t, api.Msg{Kind: kind, From: 7, To: 1, Boot: 1, Last: greatest, Commit: 60})
	}
	for at := range 61 {
		for _, commit := range []int{0, at, 60} {
			m := some()
			m.At, m.Commit = at, commit
			wantGood(t, m)
		}
	}
}

func TestP16_1Eq(t *testing.T) {
	for _, m := range []api.Msg{{}, least(), some(), most()} {
		wantEq(t, m, m, true)
		for _, f := range fields() {
			x := with(m, f, 33)
			wantEq(t, x, m, false)
			wantEq(t, x, with(m, f, 33), true)
		}
		x := m
		x.Yes = !m.Yes
		wantEq(t, x, m, false)
	}
	wantEq(t, least(), some(), false)
	wantEq(t, api.Msg{}, least(), false)
}

// No two fields are taken for one another, and none is added up with another one.
func TestP16_1EqOfTurnedFields(t *testing.T) {
	for i, f := range fields() {
		for _, g := range fields()[:i] {
			m := least()
			wantEq(t, with(with(m, f, 3), g, 4), with(with(m, f, 4), g, 3), false)
		}
	}
	a, b := least(), least()
	a.Yes, b.Num = true, 1
	wantEq(t, a, b, false)
	b = withEntries(least(), leastEntry())
	wantEq(t, a, b, false)
}

func TestP16_1EqOfEntries(t *testing.T) {
	for _, change := range []func(e *api.Entry){
		func(e *api.Entry) { e.From = 3 }, func(e *api.Entry) { e.Boot = 3 }, func(e *api.Entry) { e.Seq = 3 },
		func(e *api.Entry) { e.Order = 1 }, func(e *api.Entry) { e.Level = 1 }, func(e *api.Entry) { e.Stamp = 3 },
		func(e *api.Entry) { e.Data = "" }, func(e *api.Entry) { e.Data = strings.Repeat("\xff", 15) + "\xfe" },
	} {
		for at := range 60 {
			m := most()
			change(&m.Entries[at])
			wantEq(t, m, most(), false)
			wantEq(t, m, m, true)
		}
	}
	a, b := leastEntry(), mostEntry()
	lists := [][]api.Entry{nil, {a}, {b}, {a, a}, {a, b}, {b, a}, {b, b}, {a, a, a}, {a, b, a}, {a, a, b}, {b, a, a}, {{}}, {{}, {}}}
	for i, l := range lists {
		for j, k := range lists {
			wantEq(t, withEntries(some(), l...), withEntries(some(), slices.Clone(k)...), i == j)
		}
	}
}

// Of messages that may not be Eq holds likewise.
func TestP16_1EqOfWrongOnes(t *testing.T) {
	for _, f := range fields() {
		for _, n := range []int64{-1, 200, -1 << 40, 1 << 41, 1 << 62, math.MaxInt64, math.MinInt64} {
			a, b := with(some(), f, n), with(some(), f, n^1<<32)
			wantEq(t, a, with(some(), f, n), true)
			wantEq(t, a, b, false)
			wantEq(t, a, some(), false)
		}
	}
	long := slices.Repeat([]api.Entry{{From: 9}}, 500)
	wantEq(t, withEntries(some(), long...), withEntries(some(), slices.Clone(long)...), true)
	wantEq(t, withEntries(some(), long...), withEntries(some(), long[:499]...), false)
	other := slices.Clone(long)
	other[499].Seq = 1
	wantEq(t, withEntries(some(), long...), withEntries(some(), other...), false)
}

func TestP16_1EncodeKnown(t *testing.T) {
	for _, c := range []struct {
		m    api.Msg
		want string
	}{
		{least(), "\x02\x02\x04\x02\x00\x00\x00\x00\x00\x00\x00\x00\x00"},
		{api.Msg{Kind: 13, From: 7, To: 1, Boot: 63, View: 64, Last: 5, Members: 127, At: 1, Commit: 2, Num: 3, Clock: 4, Yes: true},
			"\x1a\x0e\x02\x7e\x80\x01\x0a\xfe\x01\x02\x04\x06\x08\x02\x00"},
		{api.Msg{Kind: 9, From: 3, To: 1, Boot: 64, View: 2, Num: 1, Yes: true}, "\x12\x06\x02\x80\x01\x04\x00\x00\x00\x00\x02\x00\x02\x00"},
		{api.Msg{Kind: 7, From: 2, To: 3, Boot: 1, Entries: []api.Entry{{From: 2, Boot: 1, Seq: 4, Order: 2, Level: 1, Stamp: 6, Data: "ab"}, leastEntry()}},
			"\x0e\x04\x06\x02\x00\x00\x00\x00\x00\x00\x00\x00\x04" + "\x04\x02\x08\x04\x02\x0c\x04ab" + "\x02\x02\x02\x00\x00\x00\x00"},
	} {
		want := seal([]byte(c.want))
		if got := Encode(c.m); !bytes.Equal(got, want) {
			t.Errorf("Encode(%v): %x; want %x", c.m, got, want)
		}
		wantMsg(t, want, c.m)
	}
	if got := Encode(least()); string(got[len(got)-4:]) != "\x37\x3f\xce\xe9" {
		t.Errorf("Encode(%v): the sum is %x", least(), got[len(got)-4:])
	}
}

func TestP16_1EncodeAndDecodeAny(t *testing.T) {
	r := rand.New(rand.NewSource(161))
	for range 5000 {
		m := randomMsg(r)
		wantGood(t, m)
		x, err := Decode(Encode(m))
		if err != api.OK || !Eq(x, m) || !Eq(m, x) {
			t.Fatalf("Decode of %v: %v, %d", m, x, err)
		}
	}
}

// The order of the entries stays, and they may be doubled: a log sees to that.
func TestP16_1EntriesStayAsTheyAre(t *testing.T) {
	late, early := leastEntry(), leastEntry()
	late.Stamp = 9
	wantGood(t, withEntries(some(), late, early, late, late, mostEntry(), early))
}

func TestP16_1EachOneByteChange(t *testing.T) {
	for _, m := range []api.Msg{least(), some(), withEntries(most(), mostEntry(), leastEntry(), mostEntry())} {
		b := Encode(m)
		for i := range b {
			for d := 1; d < 256; d++ {
				c := slices.Clone(b)
				c[i] ^= byte(d)
				wantNone(t, c)
			}
		}
	}
	b := Encode(most())
	for i := range b {
		for bit := range 8 {
			b[i] ^= 1 << bit
			wantNone(t, b)
			b[i] ^= 1 << bit
		}
	}
	wantMsg(t, b, most())
}

func TestP16_1EachCut(t *testing.T) {
	for _, m := range []api.Msg{least(), some(), most()} {
		b := Encode(m)
		for n := range b {
			wantNone(t, b[:n])
		}
		for n := range len(b) - 1 {
			wantNone(t, b[n+1:])
		}
		in := innerOf(m)
		for n := range in {
			wantNone(t, seal(in[:n]))
		}
		for n := range in {
			checkDecode(t, seal(slices.Delete(slices.Clone(in), n, n+1)))
		}
	}
}

func TestP16_1BytesBehind(t *testing.T) {
	for _, m := range []api.Msg{least(), some(), most()} {
		b, in := Encode(m), innerOf(m)
		for c := range 1 << 16 {
			if c < 256 {
				wantNone(t, append(slices.Clone(b), byte(c)))
				wantNone(t, seal(append(slices.Clone(in), byte(c))))
			}
			if len(b) < 200 {
				wantNone(t, append(slices.Clone(b), byte(c), byte(c>>8)))
			}
		}
		for _, more := range [][]byte{b, in, rawEntries([]api.Entry{leastEntry()}), rawEntries(m.Entries), make([]byte, 4), make([]byte, 1000), seal(nil)} {
			if len(more) == 0 {
				continue
			}
			wantNone(t, slices.Concat(b, more))
			wantNone(t, slices.Concat(more, b))
			wantNone(t, seal(slices.Concat(in, more)))
		}
		// Sealed twice: what is behind makes the sum a right one again.
		wantNone(t, seal(b))
		wantNone(t, seal(seal(b)))
	}
}

func TestP16_1DecodeOfOtherYes(t *testing.T) {
	for _, m := range []api.Msg{least(), some(), most()} {
		count := int64(len(m.Entries))
		for yes := int64(-300); yes <= 300; yes++ {
			x := m
			x.Yes = yes == 1
			if yes == 0 || yes == 1 {
				wantMsg(t, seal(inner(m, yes, count)), x)
			} else {
				wantNone(t, seal(inner(m, yes, count)))
			}
		}
		for _, yes := range []int64{1 << 8, 1<<8 + 1, 1 << 32, 1<<32 + 1, math.MaxInt64, math.MinInt64, math.MinInt64 + 1} {
			wantNone(t, seal(inner(m, yes, count)))
		}
	}
}

func TestP16_1DecodeOfOtherCounts(t *testing.T) {
	for _, m := range []api.Msg{least(), some(), most()} {
		right := int64(len(m.Entries))
		for count := int64(-200); count <= 200; count++ {
			if count != right {
				wantNone(t, seal(inner(m, 0, count)))
			}
		}
		for _, far := range []int64{1 << 8, 1 << 16, 1 << 32, 1 << 40, 1 << 62, -1 << 62} {
			wantNone(t, seal(inner(m, 0, right+far)))
		}
		wantNone(t, seal(inner(m, 0, math.MaxInt64)))
		wantNone(t, seal(inner(m, 0, math.MinInt64)))
	}
}

func TestP16_1DecodeOfLongerNumbers(t *testing.T) {
	for _, m := range []api.Msg{least(), some(), most()} {
		in := innerOf(m)
		ends := 0 // of those bytes that end a number, the first thirteen
		for i, c := range in {
			if c >= 128 {
				continue
			}
			if ends++; ends > 13 {
				break
			}
			for _, zeros := range []int{0, 1, 7} {
				longer := slices.Concat(in[:i], []byte{c | 128}, bytes.Repeat([]byte{128}, zeros), []byte{0}, in[i+1:])
				wantNone(t, seal(longer))
			}
		}
	}
}

func TestP16_1DecodeOfNoNumbers(t *testing.T) {
	in := innerOf(some())
	for _, s := range []string{"\x00", "\x80", "\x02", "\xff", strings.Repeat("\x00", 13), strings.Repeat("\x80", 30), strings.Repeat("\xff", 200), strings.Repeat("\x02", 13), strings.Repeat("\xff", 9) + "\x02"} {
		wantNone(t, []byte(s))
		wantNone(t, seal([]byte(s)))
		wantNone(t, seal(slices.Concat([]byte(s), in)))
	}
	wantNone(t, in)
	wantNone(t, nil)
	wantNone(t, seal(nil))
}

func TestP16_1DecodeOfAnotherSum(t *testing.T) {
	b := Encode(some())
	end := len(b) - 4
	turned := slices.Clone(b)
	slices.Reverse(turned[end:])
	wantNone(t, turned)
	sum := ^crc32.ChecksumIEEE(b[:end])
	wantNone(t, append(slices.Clone(b[:end]), byte(sum>>24), byte(sum>>16), byte(sum>>8), byte(sum)))
	wantNone(t, append(slices.Clone(b[:end]), 0, 0, 0, 0))
}

// Whatever the bytes, they are those that Encode gives of what was read, or nothing is.
func checkDecode(t *testing.T, b []byte) {
	t.Helper()
	m, err := Decode(b)
	if err != api.OK {
		if err != api.ErrForm || !isZero(m) {
			t.Fatalf("Decode(%x): %v, %d", b, m, err)
		}
		return
	}
	if !May(m) || !bytes.Equal(Encode(m), b) || !bytes.Equal(raw(m), b) {
		t.Fatalf("Decode(%x): %v, which is %x", b, m, Encode(m))
	}
}

func TestP16_1DecodeIsJustOfSuchBytes(t *testing.T) {
	r := rand.New(rand.NewSource(1616))
	for range 30000 {
		b := innerOf(randomMsg(r))
		for range 1 + r.Intn(3) {
			switch i := r.Intn(len(b)); r.Intn(3) {
			case 0:
				b[i] ^= 1 << r.Intn(8)
			case 1:
				b = slices.Insert(b, i, byte(r.Intn(256)))
			case 2:
				b = slices.Delete(b, i, i+1)
			}
		}
		checkDecode(t, seal(b))
		checkDecode(t, b)
	}
}

func TestP0_1ShortLists(t *testing.T) {
	for i := range 1 << 16 {
		for _, b := range [][]byte{{byte(i)}, {byte(i), byte(i >> 8)}} {
			wantNone(t, b)
			wantNone(t, seal(b))
		}
	}
}

// Each entry is gone over once only, and what is too many is not gone over: else this would take minutes.
func TestP0_1LongLists(t *testing.T) {
	m := withEntries(some(), slices.Repeat([]api.Entry{mostEntry(), leastEntry()}, 100000)...)
	for range 1000 {
		if May(m) || Encode(m) != nil {
			t.Fatal("May of a message of 200000 entries")
		}
	}
	b := raw(m)
	if x, err := Decode(b); err != api.ErrForm || !isZero(x) {
		t.Errorf("Decode of %d bytes: %d entries, %d", len(b), len(x.Entries), err)
	}
	long := make([]byte, 1<<22)
	wantNoneLong(t, long)
	wantNoneLong(t, seal(long))
	wantEq(t, m, withEntries(some(), slices.Clone(m.Entries)...), true)
}

func wantNoneLong(t *testing.T, b []byte) {
	t.Helper()
	if m, err := Decode(b); err != api.ErrForm || !isZero(m) {
		t.Errorf("Decode of %d bytes: %d", len(b), err)
	}
}

func TestP0_3ArgumentsStayAsTheyAre(t *testing.T) {
	for _, last := range []api.Entry{leastEntry(), {}} {
		l := []api.Entry{mostEntry(), last, {Data: "spare"}, {Data: "room"}}
		was := slices.Clone(l)
		m := withEntries(some(), l[:2]...)
		May(m)
		Encode(m)
		Eq(m, m)
		if !slices.Equal(l, was) {
			t.Errorf("%v is %v now", was, l)
		}
	}
	for _, cut := range []int{0, 1, 9} {
		b := append(Encode(some()), "spare room"...)
		was := slices.Clone(b)
		Decode(b[:len(b)-10-cut])
		if !bytes.Equal(b, was) {
			t.Errorf("Decode: %x is %x now", was, b)
		}
	}
}

func TestP0_3AnswersAreNewMemory(t *testing.T) {
	b, c := Encode(some()), Encode(some())
	clearAll(b)
	if !bytes.Equal(c, raw(some())) || !bytes.Equal(Encode(some()), raw(some())) {
		t.Error("Encode: two answers share memory")
	}
	got, _ := Decode(c)
	other, _ := Decode(c)
	clearAll(c)
	if !isSame(got, some()) {
		t.Errorf("Decode: %v hangs on the bytes that were read", got)
	}
	clearAll(got.Entries)
	if !isSame(other, some()) {
		t.Error("Decode: two answers share memory")
	}
	wantMsg(t, raw(some()), some())
}

// clearAll writes into a list, its spare room too.
func clearAll[T any](l []T) { clear(l[:cap(l)]) }

func TestP0_4NilIsEmpty(t *testing.T) {
	a, b := least(), withEntries(least(), []api.Entry{}...)
	wantEq(t, a, b, true)
	if !May(a) || !May(b) || !bytes.Equal(Encode(a), Encode(b)) {
		t.Error("May and Encode of a message without entries")
	}
	wantNone(t, nil)
	wantNone(t, []byte{})
}

func TestP0_5AnswersHangOnArgumentsAlone(t *testing.T) {
	for range 3 {
		wantGood(t, some())
		wantNone(t, raw(some())[:9])
		wantGood(t, most())
		wantWrong(t, api.Msg{})
		wantGood(t, least())
	}
}

func FuzzWire(f *testing.F) {
	f.Add([]byte{})
	f.Add(innerOf(least()))
	f.Add(innerOf(some()))
	f.Add(innerOf(api.Msg{Kind: 14}))
	f.Fuzz(func(t *testing.T, b []byte) {
		checkDecode(t, b)
		checkDecode(t, seal(b))
	})
}
