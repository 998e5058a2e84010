package entry

import (
	"bytes"
	"math"
	"math/rand"
	"slices"
	"strings"
	"testing"

	"curfew/api"
)

const greatest = int64(1) << 40 // of starts, of broadcasts of a start, and of times

// least is the entry of which each field is as low as it may be, most the one of which each is as high.
func least() api.Entry { return api.Entry{From: 1, Boot: 1, Seq: 1} }

func most() api.Entry {
	return api.Entry{From: 7, Boot: greatest, Seq: greatest, Order: 2, Level: 2, Stamp: greatest, Data: strings.Repeat("\xff", 16)}
}

// field is one of an entry's numbers, and from what to what it may be.
type field struct {
	name      string
	low, high int64
	set       func(e *api.Entry, n int64)
}

func fields() []field {
	return []field{
		{"From", 1, 7, func(e *api.Entry, n int64) { e.From = int(n) }},
		{"Boot", 1, greatest, func(e *api.Entry, n int64) { e.Boot = n }},
		{"Seq", 1, greatest, func(e *api.Entry, n int64) { e.Seq = n }},
		{"Order", 0, 2, func(e *api.Entry, n int64) { e.Order = int(n) }},
		{"Level", 0, 2, func(e *api.Entry, n int64) { e.Level = int(n) }},
		{"Stamp", 0, greatest, func(e *api.Entry, n int64) { e.Stamp = n }},
	}
}

// numbersAbout are those next to both bounds of a field, and those that a narrower number would take for good ones.
func numbersAbout(f field) []int64 {
	var l []int64
	for d := int64(-3); d <= 3; d++ {
		l = append(l, d, f.low+d, f.high+d, (f.low+f.high)/2+d, 8+d, 64+d, 128+d, 256+d, 1<<16+d, 1<<31+d, 1<<32+d, 1<<40+d, -1<<8+d, -1<<32+d, -1<<40+d, 1<<62+d, -1<<62+d)
	}
	for d := range int64(4) {
		l = append(l, math.MaxInt64-d, math.MinInt64+d)
	}
	return l
}

func with(e api.Entry, f field, n int64) api.Entry {
	f.set(&e, n)
	return e
}

// randomEntry gives one that may be, with small and with great numbers.
func randomEntry(r *rand.Rand) api.Entry {
	e := least()
	for _, f := range fields() {
		n := f.low + r.Int63n(f.high-f.low+1)
		if r.Intn(2) == 0 {
			n = f.low + r.Int63n(min(f.high-f.low+1, 200))
		}
		f.set(&e, n)
	}
	data := make([]byte, r.Intn(17))
	r.Read(data)
	e.Data = string(data)
	return e
}

func randomEntries(r *rand.Rand, n int) []api.Entry {
	l := make([]api.Entry, n)
	for i := range l {
		l[i] = randomEntry(r)
	}
	return l
}

// sevens writes a number by the words of the chapter of num.
func sevens(n int64) []byte {
	u := uint64(n) * 2
	if n < 0 {
		u = uint64(-n)*2 - 1
	}
	var b []byte
	for u > 127 {
		b = append(b, byte(u%128)+128)
		u /= 128
	}
	return append(b, byte(u))
}

// raw writes an entry, whether or not it may be.
func raw(e api.Entry) []byte {
	b := slices.Concat(sevens(int64(e.From)), sevens(e.Boot), sevens(e.Seq), sevens(int64(e.Order)), sevens(int64(e.Level)), sevens(e.Stamp), sevens(int64(len(e.Data))))
	return append(b, e.Data...)
}

func rawAll(l []api.Entry) []byte {
	var b []byte
	for _, e := range l {
		b = append(b, raw(e)...)
	}
	return b
}

func wantNone(t *testing.T, b []byte) {
	t.Helper()
	if l, err := Decode(b); l != nil || err != api.ErrForm {
		t.Errorf("Decode(%x): %v, %d; want nil, ErrForm", b, l, err)
	}
}

func wantAll(t *testing.T, b []byte, want []api.Entry) {
	t.Helper()
	if l, err := Decode(b); !slices.Equal(l, want) || err != api.OK {
		t.Errorf("Decode(%x): %v, %d; want %v, OK", b, l, err, want)
	}
}

func TestP12_1May(t *testing.T) {
	for _, e := range []api.Entry{least(), most()} {
		for _, f := range fields() {
			for _, n := range numbersAbout(f) {
				if got, want := May(with(e, f, n)), n >= f.low && n <= f.high; got != want {
					t.Errorf("May, %s %d: %v", f.name, n, got)
				}
			}
		}
	}
	if May(api.Entry{}) {
		t.Error("May of a zero Entry")
	}
}

func TestP12_1MayData(t *testing.T) {
	for _, n := range []int{0, 1, 15, 16, 17, 18, 32, 255, 256, 257, 272, 1 << 16, 1<<16 + 1, 1 << 20} {
		for _, c := range []string{"\x00", "a", "\x80", "\xff"} {
			e := least()
			e.Data = strings.Repeat(c, n)
			if May(e) != (n <= 16) {
				t.Errorf("May, Data of %d bytes: %v", n, May(e))
			}
		}
	}
	e := least()
	e.Data = strings.Repeat("\u00e4", 8)
	if !May(e) {
		t.Error("May: Data of 16 bytes, 8 runes")
	}
	e.Data += "\u00e4"
	if May(e) {
		t.Error("May: Data of 18 bytes, 9 runes")
	}
}

func TestP12_1EqAndSame(t *testing.T) {
	for i, f := range fields() {
		e := with(most(), f, 1)
		if Eq(e, most()) || Eq(most(), e) || !Eq(e, e) {
			t.Errorf("Eq, %s", f.name)
		}
		if want := i > 2; Same(e, most()) != want || Same(most(), e) != want || !Same(e, e) {
			t.Errorf("Same, %s", f.name)
		}
	}
	for _, data := range []string{"", "a", strings.Repeat("\xff", 15), strings.Repeat("\xff", 15) + "\xfe", strings.Repeat("\xff", 17)} {
		e := most()
		e.Data = data
		if Eq(e, most()) || Eq(most(), e) || !Same(e, most()) || !Same(most(), e) {
			t.Errorf("Eq and Same, Data %q", data)
		}
	}
}

// Of entries that may not be both hold likewise.
func TestP12_1EqAndSameOfWrongOnes(t *testing.T) {
	if !Eq(api.Entry{}, api.Entry{}) || !Same(api.Entry{}, api.Entry{}) {
		t.Error("zero entries are not the same")
	}
	for i, f := range fields() {
		for _, n := range []int64{-1, 8, -1 << 40, 1 << 41, 1 << 62, math.MaxInt64, math.MinInt64} {
			a, b := with(most(), f, n), with(most(), f, n^1<<32)
			if !Eq(a, a) || !Same(a, a) || Eq(a, b) || Same(a, b) != (i > 2) {
				t.Errorf("%s: %d and %d", f.name, n, n^1<<32)
			}
		}
	}
}

func TestP12_1EncodeKnown(t *testing.T) {
	for _, c := range []struct {
		e    api.Entry
		want string
	}{
		{least(), "\x02\x02\x02\x00\x00\x00\x00"},
		{api.Entry{From: 7, Boot: 63, Seq: 64, Order: 2, Level: 1, Stamp: 8191, Data: "a\x00"}, "\x0e\x7e\x80\x01\x04\x02\xfe\x7f\x04a\x00"},
		{api.Entry{From: 3, Boot: 8192, Seq: 2, Order: 1, Level: 2, Stamp: 5, Data: "0123456789abcdef"}, "\x06\x80\x80\x01\x04\x02\x04\x0a\x200123456789abcdef"},
		{most(), "\x0e\x80\x80\x80\x80\x80\x40\x80\x80\x80\x80\x80\x40\x04\x04\x80\x80\x80\x80\x80\x40\x20" + strings.Repeat("\xff", 16)},
	} {
		if got := Encode(c.e); string(got) != c.want {
			t.Errorf("Encode(%v): %x; want %x", c.e, got, c.want)
		}
		wantAll(t, []byte(c.want), []api.Entry{c.e})
	}
}

func TestP12_1EncodeAndDecodeAny(t *testing.T) {
	r := rand.New(rand.NewSource(12))
	for _, n := range []int{0, 1, 2, 3, 5, 59, 60, 61, 200, 1000} {
		for range 20 {
			l := randomEntries(r, n)
			b := Encode(l...)
			if !bytes.Equal(b, rawAll(l)) {
				t.Fatalf("Encode(%v): %x; want %x", l, b, rawAll(l))
			}
			wantAll(t, b, l)
		}
	}
}

// Entries may be doubled, and need no order: a log sees to that.
func TestP12_1SameOnesAreWritten(t *testing.T) {
	l := []api.Entry{most(), least(), most(), most(), least()}
	wantAll(t, Encode(l...), l)
}

func TestP12_1EncodeOfNone(t *testing.T) {
	if b := Encode(); len(b) != 0 {
		t.Errorf("Encode of none: %x", b)
	}
	if b := Encode([]api.Entry{}...); len(b) != 0 {
		t.Errorf("Encode of an empty list: %x", b)
	}
	wantAll(t, nil, nil)
	wantAll(t, []byte{}, nil)
}

func TestP12_1EncodeOfWrongOnes(t *testing.T) {
	for _, f := range fields() {
		for _, n := range numbersAbout(f) {
			if n >= f.low && n <= f.high {
				continue
			}
			e := with(most(), f, n)
			for _, l := range [][]api.Entry{{e}, {e, most()}, {most(), e}, {least(), e, most()}, {e, e}} {
				if b := Encode(l...); b != nil {
					t.Errorf("Encode, %s %d: %x", f.name, n, b)
				}
			}
			wantNone(t, raw(e))
			wantNone(t, rawAll([]api.Entry{most(), e}))
			wantNone(t, rawAll([]api.Entry{e, least()}))
		}
	}
}

func TestP12_1DataThatIsTooLong(t *testing.T) {
	for _, n := range []int{17, 18, 255, 256, 272, 1 << 16, 1<<16 + 1, 1 << 17} {
		e := least()
		e.Data = strings.Repeat("d", n)
		if b := Encode(least(), e); b != nil {
			t.Errorf("Encode, Data of %d bytes: %x", n, b)
		}
		wantNone(t, raw(e))
		wantNone(t, rawAll([]api.Entry{most(), e}))
	}
}

// What is cut is just of such bytes only where one entry ends.
func TestP12_1DecodeOfABeginning(t *testing.T) {
	l := []api.Entry{most(), least(), {From: 2, Boot: 70, Seq: 9000, Stamp: 1 << 30, Data: "xyz"}}
	b := Encode(l...)
	ends := map[int]int{}
	for i := range len(l) + 1 {
		ends[len(rawAll(l[:i]))] = i
	}
	for n := range len(b) + 1 {
		if i, ok := ends[n]; ok {
			wantAll(t, b[:n], l[:i])
		} else {
			wantNone(t, b[:n])
		}
	}
}

func TestP12_1DecodeOfLongerNumbers(t *testing.T) {
	short := raw(least())
	for i, c := range short {
		for _, longer := range [][]byte{{c | 128, 0}, {c | 128, 128, 0}, {c | 128, 128, 128, 128, 128, 128, 128, 128, 128, 0}, {c | 128, 128, 128, 128, 128, 128, 128, 128, 128, 2}, {c | 128, 128, 128, 128, 128, 128, 128, 128, 128, 128, 0}} {
			wantNone(t, slices.Concat(short[:i], longer, short[i+1:]))
			wantNone(t, slices.Concat(raw(most()), short[:i], longer, short[i+1:]))
		}
	}
}

func TestP12_1DecodeOfOtherBytes(t *testing.T) {
	good := string(raw(least()))
	for _, s := range []string{
		"\x00", "\x02", "\x80", "\xff", strings.Repeat("\xff", 100), strings.Repeat("\x00", 7), strings.Repeat("\x80", 50),
		"\x02\x02\x02\x00\x00\x00\x01",         // a text of -1 bytes
		"\x02\x02\x02\x00\x00\x00\x22",         // of 17
		"\x02\x02\x02\x00\x00\x00\x02",         // of one that is not there
		"\x02\x02\x02\x00\x00\x00",             // no text
		"\x02\x02\x02\x00\x00\x00\x82\x80\x08", // a text above 2^16
		"\x02\x02\x02\x00\x00\x00\xfe\xff\xff\xff\xff\xff\xff\xff\xff\x01",
	} {
		wantNone(t, []byte(s))
		wantNone(t, []byte(good+s))
	}
	wantNone(t, []byte("\x00"+good))
	wantNone(t, []byte("a"+good))
}

// Whatever the bytes, they are those that Encode gives of what was read, or nothing is.
func TestP12_1DecodeIsJustOfSuchBytes(t *testing.T) {
	r := rand.New(rand.NewSource(1212))
	for range 20000 {
		b := Encode(randomEntries(r, 1+r.Intn(3))...)
		for range 1 + r.Intn(3) {
			switch i := r.Intn(len(b)); r.Intn(3) {
			case 0:
				b[i] ^= 1 << r.Intn(8)
			case 1:
				b = slices.Insert(b, i, byte(r.Intn(256)))
			case 2:
				b = slices.Delete(b, i, i+1)
			}
			if len(b) == 0 {
				break
			}
		}
		checkDecode(t, b)
	}
}

func checkDecode(t *testing.T, b []byte) {
	t.Helper()
	l, err := Decode(b)
	if err != api.OK {
		if err != api.ErrForm || l != nil {
			t.Fatalf("Decode(%x): %v, %d", b, l, err)
		}
		return
	}
	for _, e := range l {
		if !May(e) {
			t.Fatalf("Decode(%x): %v may not be", b, e)
		}
	}
	if !bytes.Equal(Encode(l...), b) {
		t.Fatalf("Decode(%x): %v, which is %x", b, l, Encode(l...))
	}
}

func TestP0_1ShortLists(t *testing.T) {
	for i := range 1 << 16 {
		checkDecode(t, []byte{byte(i)})
		checkDecode(t, []byte{byte(i), byte(i >> 8)})
		checkDecode(t, append(raw(most()), byte(i), byte(i>>8)))
	}
}

// Of very many entries each is gone over once only: else this would take minutes.
func TestP0_1LongLists(t *testing.T) {
	l := slices.Repeat([]api.Entry{most(), least()}, 100000)
	b := Encode(l...)
	if got, err := Decode(b); err != api.OK || !slices.Equal(got, l) {
		t.Errorf("%d entries: %d, %d", len(l), len(got), err)
	}
	short := b[:len(b)-1]
	if got, err := Decode(short); err != api.ErrForm || got != nil {
		t.Errorf("%d bytes: %d, %d", len(short), len(got), err)
	}
	l[len(l)-1].From = 0
	if Encode(l...) != nil {
		t.Error("Encode of many, the last one wrong")
	}
}

func TestP0_3ArgumentsStayAsTheyAre(t *testing.T) {
	for _, last := range []api.Entry{least(), {}} {
		l := []api.Entry{most(), last, {Data: "spare"}, {Data: "room"}}
		was := slices.Clone(l)
		Encode(l[:2]...)
		if !slices.Equal(l, was) {
			t.Errorf("Encode: %v is %v now", was, l)
		}
	}
	for _, cut := range []int{0, 1, 9} {
		b := append(Encode(most(), least()), "spare room"...)
		was := slices.Clone(b)
		Decode(b[:len(b)-10-cut])
		if !bytes.Equal(b, was) {
			t.Errorf("Decode: %x is %x now", was, b)
		}
	}
}

func TestP0_3AnswersAreNewMemory(t *testing.T) {
	l := []api.Entry{most(), least()}
	b, c := Encode(l...), Encode(l...)
	clearAll(b)
	if !bytes.Equal(c, rawAll(l)) || !bytes.Equal(Encode(l...), rawAll(l)) {
		t.Error("Encode: two answers share memory")
	}
	got, _ := Decode(c)
	other, _ := Decode(c)
	clearAll(c)
	if !slices.Equal(got, l) {
		t.Errorf("Decode: %v hangs on the bytes that were read", got)
	}
	clearAll(got)
	if !slices.Equal(other, l) {
		t.Error("Decode: two answers share memory")
	}
	one := Encode(least())
	clearAll(one[:0])
	if got := Encode(least()); !bytes.Equal(got, raw(least())) {
		t.Errorf("Encode: %x after another answer was written into", got)
	}
}

// clearAll writes into a list, its spare room too.
func clearAll[T any](l []T) { clear(l[:cap(l)]) }

func TestP0_4NilIsEmpty(t *testing.T) {
	var none []api.Entry
	if len(Encode(none...)) != 0 {
		t.Error("Encode of a nil list")
	}
	l, err := Decode(nil)
	m, other := Decode([]byte{})
	if len(l) != 0 || len(m) != 0 || err != api.OK || other != api.OK {
		t.Errorf("Decode: %v, %d and %v, %d", l, err, m, other)
	}
}

func TestP0_5AnswersHangOnArgumentsAlone(t *testing.T) {
	b := raw(least())
	for range 3 {
		wantAll(t, b, []api.Entry{least()})
		wantNone(t, b[:3])
		wantAll(t, raw(most()), []api.Entry{most()})
		if !bytes.Equal(Encode(least()), b) || Encode(api.Entry{}) != nil {
			t.Error("Encode answers otherwise than ahead")
		}
	}
}

func FuzzEntry(f *testing.F) {
	f.Add([]byte{})
	f.Add(Encode(least()))
	f.Add(Encode(most(), least()))
	f.Add(raw(api.Entry{From: 8}))
	f.Fuzz(func(t *testing.T, b []byte) { checkDecode(t, b) })
}
