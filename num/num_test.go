package num

import (
	"bytes"
	"math"
	"math/big"
	"strings"
	"testing"

	"curfew/api"
)

// plain reckons P1.1's bytes by its words, with numbers of any size.
func plain(n int64) []byte {
	u := new(big.Int).Mul(big.NewInt(2), big.NewInt(n))
	if n < 0 {
		u.Neg(u).Sub(u, big.NewInt(1))
	}
	var out []byte
	for {
		low := byte(new(big.Int).And(u, big.NewInt(127)).Int64())
		u.Rsh(u, 7)
		if u.Sign() == 0 {
			return append(out, low)
		}
		out = append(out, low+128)
	}
}

// edges are the numbers where the count of bytes or of bits turns, on both sides of 0.
func edges() []int64 {
	l := []int64{math.MinInt64, math.MinInt64 + 1, math.MaxInt64, math.MaxInt64 - 1, 0, 1, -1, 300, -300, api.MaxNum, -api.MaxNum}
	for bit := range 63 {
		x := int64(1) << bit
		l = append(l, x-1, x, x+1, -x+1, -x, -x-1)
	}
	return l
}

func checkGet(t *testing.T, b []byte, n int64, size int, want api.Errno) {
	t.Helper()
	if x, k, err := Get(b); x != n || k != size || err != want {
		t.Errorf("Get(%x): %d, %d, %d; want %d, %d, %d", b, x, k, err, n, size, want)
	}
}

func checkText(t *testing.T, b []byte, s string, size int, want api.Errno) {
	t.Helper()
	if x, k, err := GetText(b); x != s || k != size || err != want {
		t.Errorf("GetText(%.20x), %d bytes: %.20q, %d, %d; want %.20q, %d, %d", b, len(b), x, k, err, s, size, want)
	}
}

func TestP1_1PutKnown(t *testing.T) {
	for _, c := range []struct {
		n    int64
		want string
	}{
		{0, "\x00"}, {-1, "\x01"}, {1, "\x02"}, {-2, "\x03"}, {63, "\x7e"}, {-64, "\x7f"},
		{64, "\x80\x01"}, {-65, "\x81\x01"}, {8191, "\xfe\x7f"}, {-8192, "\xff\x7f"}, {8192, "\x80\x80\x01"},
		{math.MaxInt64, "\xfe\xff\xff\xff\xff\xff\xff\xff\xff\x01"},
		{math.MinInt64, "\xff\xff\xff\xff\xff\xff\xff\xff\xff\x01"},
	} {
		if b := Put([]byte("ab"), c.n); string(b) != "ab"+c.want {
			t.Errorf("Put(ab, %d): %x; want ab and %x", c.n, b, c.want)
		}
	}
}

func TestP1_1PutThenGet(t *testing.T) {
	for _, n := range edges() {
		b := Put(nil, n)
		if !bytes.Equal(b, plain(n)) {
			t.Errorf("Put(nil, %d): %x; want %x", n, b, plain(n))
		}
		checkGet(t, b, n, len(b), api.OK)
		for _, behind := range []byte{0, 1, 127, 128, 255} {
			checkGet(t, append(b[:len(b):len(b)], behind), n, len(b), api.OK)
		}
	}
}

func TestP1_1GetShort(t *testing.T) {
	checkGet(t, nil, 0, 0, api.ErrMore)
	checkGet(t, []byte{}, 0, 0, api.ErrMore)
	for _, n := range edges() {
		b := Put(nil, n)
		for k := range len(b) {
			checkGet(t, b[:k], 0, 0, api.ErrMore)
		}
	}
	for k := range 10 {
		checkGet(t, bytes.Repeat([]byte{0x80}, k), 0, 0, api.ErrMore)
		checkGet(t, bytes.Repeat([]byte{0xff}, k), 0, 0, api.ErrMore)
	}
}

func TestP1_1GetLongerThanNeeded(t *testing.T) {
	for k := 1; k < 10; k++ {
		for _, c := range []byte{0x80, 0xff} {
			b := append(bytes.Repeat([]byte{c}, k), 0)
			checkGet(t, b, 0, 0, api.ErrForm)
			checkGet(t, append(b, 7), 0, 0, api.ErrForm)
		}
	}
}

func TestP1_1GetTenthByte(t *testing.T) {
	for _, c := range []byte{0x80, 0xff} {
		nine := bytes.Repeat([]byte{c}, 9)
		for last := range 256 {
			b := append(nine[:9:9], byte(last))
			if last == 1 {
				if _, k, err := Get(b); k != 10 || err != api.OK {
					t.Errorf("Get(%x): %d, %d", b, k, err)
				}
				continue
			}
			checkGet(t, b, 0, 0, api.ErrForm)
			checkGet(t, append(b, 1), 0, 0, api.ErrForm)
		}
	}
	checkGet(t, append(bytes.Repeat([]byte{0x80}, 9), 1), 1<<62, 10, api.OK)
	checkGet(t, bytes.Repeat([]byte{0xff}, 1000), 0, 0, api.ErrForm)
}

// Every list of three bytes: what is taken is just what Put writes, so no number has two forms.
func TestP1_1GetAllShortLists(t *testing.T) {
	for i := range 1 << 24 {
		b := []byte{byte(i >> 16), byte(i >> 8), byte(i)}
		n, k, err := Get(b)
		switch err {
		case api.OK:
			if !bytes.Equal(plainShort(n), b[:k]) {
				t.Fatalf("Get(%x): %d, %d", b, n, k)
			}
		case api.ErrForm:
			longer := b[0] > 127 && (b[1] == 0 || b[1] > 127 && b[2] == 0)
			if n != 0 || k != 0 || !longer {
				t.Fatalf("Get(%x): %d, %d, ErrForm", b, n, k)
			}
		case api.ErrMore:
			if n != 0 || k != 0 || b[0] < 128 || b[1] < 128 || b[2] < 128 {
				t.Fatalf("Get(%x): %d, %d, ErrMore", b, n, k)
			}
		default:
			t.Fatalf("Get(%x): %d", b, err)
		}
	}
}

// plainShort is plain for numbers of up to three bytes, quick enough for all of them.
func plainShort(n int64) []byte {
	u := 2 * n
	if n < 0 {
		u = -2*n - 1
	}
	switch {
	case u < 1<<7:
		return []byte{byte(u)}
	case u < 1<<14:
		return []byte{byte(u%128 + 128), byte(u / 128)}
	}
	return []byte{byte(u%128 + 128), byte(u/128%128 + 128), byte(u / 128 / 128)}
}

func TestP1_1PutText(t *testing.T) {
	for _, s := range []string{"", "a", "abc", "\x00", "\xff\x80", "héllo", strings.Repeat("x", 63), strings.Repeat("x", 64), strings.Repeat("y", 1<<16), strings.Repeat("z", 1<<16+1)} {
		want := "ab" + string(plain(int64(len(s)))) + s
		if b := PutText([]byte("ab"), s); string(b) != want {
			t.Errorf("PutText(ab, %.20q), %d bytes: %.20x", s, len(s), b)
		}
	}
}

func TestP1_1GetText(t *testing.T) {
	for _, s := range []string{"", "a", "abc", "\x00", "\xff\x80", "héllo", strings.Repeat("x", 63), strings.Repeat("x", 64), strings.Repeat("y", 1<<16-1), strings.Repeat("z", 1<<16)} {
		b := PutText(nil, s)
		checkText(t, b, s, len(b), api.OK)
		checkText(t, append(b[:len(b):len(b)], "behind"...), s, len(b), api.OK)
	}
}

func TestP1_1GetTextShort(t *testing.T) {
	checkText(t, nil, "", 0, api.ErrMore)
	for _, s := range []string{"a", "abc", strings.Repeat("x", 64), strings.Repeat("x", 9000)} {
		b := PutText(nil, s)
		for k := range len(b) {
			checkText(t, b[:k], "", 0, api.ErrMore)
		}
	}
	checkText(t, PutText(nil, strings.Repeat("x", 1<<16))[:1<<16], "", 0, api.ErrMore)
	checkText(t, bytes.Repeat([]byte{0xff}, 9), "", 0, api.ErrMore)
}

func TestP1_1GetTextForm(t *testing.T) {
	for _, size := range []int64{-1, -2, -64, -65, math.MinInt64, 1<<16 + 1, 1 << 31, 1 << 32, 1<<32 + 1, 1 << 62, math.MaxInt64} {
		checkText(t, Put(nil, size), "", 0, api.ErrForm)
		checkText(t, append(Put(nil, size), "abc"...), "", 0, api.ErrForm)
	}
	long := PutText(nil, strings.Repeat("x", 1<<16+1))
	checkText(t, long, "", 0, api.ErrForm)
	checkText(t, append(long, "more"...), "", 0, api.ErrForm)
	checkText(t, []byte("\x80\x00"), "", 0, api.ErrForm)
	checkText(t, []byte("\x86\x00abc"), "", 0, api.ErrForm)
	checkText(t, bytes.Repeat([]byte{0xff}, 10), "", 0, api.ErrForm)
}

// puts calls both that write, by way of the same face.
func puts(b []byte) map[string][]byte {
	return map[string][]byte{
		"Put":     Put(b, -12345),
		"PutText": PutText(b, "text"),
	}
}

func TestP0_3PutLeavesItsListAlone(t *testing.T) {
	room := []byte("ab~~~~~~~~~~~~~~~~~~")
	for name, b := range puts(room[:2]) {
		if string(room) != "ab~~~~~~~~~~~~~~~~~~" {
			t.Fatalf("%s wrote into its list's spare room: %q", name, room)
		}
		all := b[:cap(b)]
		for i := range all {
			all[i] = '!'
		}
		if string(room) != "ab~~~~~~~~~~~~~~~~~~" {
			t.Errorf("%s answered memory of its list: %q", name, room)
		}
	}
}

func TestP0_3PutAnswersNewMemory(t *testing.T) {
	given := []byte("ab")
	first, second := puts(given), puts(given)
	for name, b := range first {
		want := string(second[name])
		all := b[:cap(b)]
		for i := range all {
			all[i] = '!'
		}
		if string(second[name]) != want || string(puts(given)[name]) != want {
			t.Errorf("%s: two answers share memory", name)
		}
	}
	for name, b := range puts(given) {
		want := string(b)
		given[0] = 'z'
		if string(b) != want {
			t.Errorf("%s kept its list", name)
		}
		given[0] = 'a'
	}
}

func TestP0_3GetLeavesItsListAlone(t *testing.T) {
	b := []byte("\x06abc\x80\x01")
	s, _, _ := GetText(b)
	Get(b)
	Get(b[4:])
	if string(b) != "\x06abc\x80\x01" {
		t.Errorf("a list that was read is %x", b)
	}
	b[1] = 'z'
	if s != "abc" {
		t.Errorf("GetText's answer turned into %q", s)
	}
}

func TestP0_4NilIsEmpty(t *testing.T) {
	none := puts(nil)
	for name, b := range puts([]byte{}) {
		if !bytes.Equal(b, none[name]) {
			t.Errorf("%s: %x of an empty list, %x of nil", name, b, none[name])
		}
	}
	checkGet(t, nil, 0, 0, api.ErrMore)
	checkGet(t, []byte{}, 0, 0, api.ErrMore)
	checkText(t, nil, "", 0, api.ErrMore)
	checkText(t, []byte{}, "", 0, api.ErrMore)
}

func TestP0_5AnswersRepeat(t *testing.T) {
	for _, n := range edges() {
		b := Put([]byte("ab"), n)
		if !bytes.Equal(b, Put([]byte("ab"), n)) {
			t.Errorf("Put(ab, %d) answered twice, not the same", n)
		}
	}
}

func FuzzGet(f *testing.F) {
	for _, n := range edges() {
		f.Add(Put(nil, n))
	}
	f.Add([]byte("\x80\x00"))
	f.Add([]byte("\xff\xff\xff\xff\xff\xff\xff\xff\xff\x02"))
	f.Fuzz(func(t *testing.T, b []byte) {
		n, k, err := Get(b)
		if err == api.OK && !bytes.Equal(b[:k], plain(n)) {
			t.Errorf("Get(%x): %d, %d", b, n, k)
		}
		if err != api.OK && (n != 0 || k != 0) {
			t.Errorf("Get(%x): %d, %d beside %d", b, n, k, err)
		}
		s, k, err := GetText(b)
		if err == api.OK && !bytes.Equal(b[:k], PutText(nil, s)) {
			t.Errorf("GetText(%x): %q, %d", b, s, k)
		}
		if err != api.OK && (s != "" || k != 0) {
			t.Errorf("GetText(%x): %q, %d beside %d", b, s, k, err)
		}
	})
}
