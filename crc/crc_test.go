package crc

import (
	"bytes"
	"encoding/binary"
	"hash/crc32"
	"math/rand"
	"testing"
)

// plain reckons P2.1's sum by its words, a bit at a time, without a table.
func plain(b []byte) uint32 {
	sum := uint32(0xffffffff)
	for _, c := range b {
		for bit := range 8 {
			turn := (sum^uint32(c)>>bit)&1 == 1
			sum >>= 1
			if turn {
				sum ^= 0xedb88320
			}
		}
	}
	return sum ^ 0xffffffff
}

// samples are lists of all short lengths and of some long ones.
func samples() [][]byte {
	r := rand.New(rand.NewSource(2))
	l := [][]byte{nil, {}, []byte("123456789"), []byte("some text\x00\xff"), make([]byte, 1000), bytes.Repeat([]byte{0xff}, 1000)}
	for n := range 70 {
		l = append(l, make([]byte, n), bytes.Repeat([]byte{0xff}, n))
	}
	for _, n := range []int{1, 2, 3, 4, 5, 7, 8, 9, 15, 16, 17, 31, 33, 63, 64, 65, 255, 256, 257, 4095, 4097, 1<<16 - 1, 1 << 16, 1<<20 + 3} {
		b := make([]byte, n)
		r.Read(b)
		l = append(l, b)
	}
	return l
}

func checkOpen(t *testing.T, b, want []byte, wantOK bool) {
	t.Helper()
	x, ok := Open(b)
	if ok != wantOK || !bytes.Equal(x, want) || !ok && x != nil {
		t.Errorf("Open(%.40x), %d bytes: %.40x, %v; want %.40x, %v", b, len(b), x, ok, want, wantOK)
	}
}

func TestP2_1SumKnown(t *testing.T) {
	for s, want := range map[string]uint32{
		"":                 0,
		"\x00":             0xd202ef8d,
		"\x00\x00\x00\x00": 0x2144df1c,
		"\xff":             0xff000000,
		"\xff\xff\xff\xff": 0xffffffff,
		"a":                0xe8b7be43,
		"abc":              0x352441c2,
		"123456789":        0xcbf43926,
		"The quick brown fox jumps over the lazy dog": 0x414fa339,
	} {
		if got := Sum([]byte(s)); got != want {
			t.Errorf("Sum(%q): %08x; want %08x", s, got, want)
		}
	}
}

func TestP2_1SumAsOfTheWords(t *testing.T) {
	for _, b := range samples() {
		if got := Sum(b); got != plain(b) || got != crc32.ChecksumIEEE(b) {
			t.Errorf("Sum(%.40x), %d bytes: %08x; want %08x", b, len(b), got, plain(b))
		}
	}
}

// Every list of two bytes, alone and behind others: all ways through the table.
func TestP2_1SumAllShortLists(t *testing.T) {
	for i := range 1 << 16 {
		b := []byte{byte(i >> 8), byte(i), 'x', byte(i), byte(i >> 8)}
		for _, part := range [][]byte{b[1:2], b[:2], b} {
			if got, want := Sum(part), crc32.ChecksumIEEE(part); got != want {
				t.Fatalf("Sum(%x): %08x; want %08x", part, got, want)
			}
		}
	}
}

func TestP2_1SealKnown(t *testing.T) {
	for s, sum := range map[string]string{
		"":                 "\x00\x00\x00\x00",
		"123456789":        "\xcb\xf4\x39\x26",
		"a":                "\xe8\xb7\xbe\x43",
		"\xff":             "\xff\x00\x00\x00",
		"\x00\x00\x00\x00": "\x21\x44\xdf\x1c",
	} {
		if got := Seal([]byte(s)); string(got) != s+sum {
			t.Errorf("Seal(%q): %x; want %x", s, got, s+sum)
		}
	}
}

func TestP2_1SealThenOpen(t *testing.T) {
	for _, b := range samples() {
		sealed := Seal(b)
		if want := binary.BigEndian.AppendUint32(bytes.Clone(b), crc32.ChecksumIEEE(b)); !bytes.Equal(sealed, want) {
			t.Errorf("Seal(%.40x), %d bytes: %.40x; want %.40x", b, len(b), sealed, want)
		}
		checkOpen(t, sealed, b, true)
		twice := Seal(sealed)
		checkOpen(t, twice, sealed, true)
	}
}

func TestP2_1OpenShort(t *testing.T) {
	checkOpen(t, nil, nil, false)
	for n := range sumLen {
		checkOpen(t, make([]byte, n), nil, false)
		checkOpen(t, bytes.Repeat([]byte{0xff}, n), nil, false)
		checkOpen(t, Seal([]byte("123456789"))[:n], nil, false)
	}
}

func TestP2_1OpenFourBytes(t *testing.T) {
	checkOpen(t, []byte{0, 0, 0, 0}, nil, true)
	for at := range 4 {
		for c := 1; c < 256; c++ {
			b := make([]byte, 4)
			b[at] = byte(c)
			checkOpen(t, b, nil, false)
		}
	}
	checkOpen(t, []byte{0xff, 0xff, 0xff, 0xff}, nil, false)
}

// A sum of 32 bits tells every fault of one bit or of one byte.
func TestP2_1OpenAnotherSum(t *testing.T) {
	for _, s := range []string{"", "a", "abc", "123456789", "\x00\x00\x00\x00", "\xff\xff\xff\xff"} {
		sealed := Seal([]byte(s))
		for at := range sealed {
			for turn := 1; turn < 256; turn++ {
				b := bytes.Clone(sealed)
				b[at] ^= byte(turn)
				checkOpen(t, b, nil, false)
			}
		}
	}
}

func TestP2_1OpenOtherForms(t *testing.T) {
	data := []byte("123456789")
	sealed := Seal(data)
	for n := range sealed {
		checkOpen(t, sealed[:n], nil, false)
	}
	checkOpen(t, sealed[1:], nil, false)
	checkOpen(t, append(bytes.Clone(sealed), 0), nil, false)
	checkOpen(t, append([]byte{0}, sealed...), nil, false)
	checkOpen(t, binary.LittleEndian.AppendUint32(bytes.Clone(data), Sum(data)), nil, false)
	checkOpen(t, binary.BigEndian.AppendUint32(bytes.Clone(data), ^Sum(data)), nil, false)
	checkOpen(t, binary.BigEndian.AppendUint32(nil, Sum(data)), nil, false)
}

func fill(b []byte) {
	all := b[:cap(b)]
	for i := range all {
		all[i] = '!'
	}
}

func TestP0_3ListsHandedInStay(t *testing.T) {
	const text = "123456789\xcb\xf4\x39\x26~~~~~~~~"
	room := []byte(text)
	for _, n := range []int{0, 3, 4, 9, 13} {
		Sum(room[:n])
		fill(Seal(room[:n]))
		opened, _ := Open(room[:n])
		fill(opened)
		if string(room) != text {
			t.Fatalf("of the first %d bytes, what was handed in turned into %q", n, room)
		}
	}
}

func TestP0_3AnswersAreNewMemory(t *testing.T) {
	given := []byte("123456789")
	first, second := Seal(given), Seal(given)
	opened, _ := Open(first)
	again, _ := Open(first)
	fill(opened)
	if string(again) != "123456789" || string(first) != string(second) {
		t.Errorf("what Open answered shares memory: %q, %q", again, first)
	}
	fill(first)
	given[0] = 'z'
	if string(second) != "123456789\xcb\xf4\x39\x26" || string(again) != "123456789" {
		t.Errorf("answers share memory: %q, %q", second, again)
	}
	empty, _ := Open(make([]byte, 4, 64))
	fill(empty)
	checkOpen(t, Seal(nil), nil, true)
}

func TestP0_4NilIsEmpty(t *testing.T) {
	if Sum(nil) != 0 || Sum([]byte{}) != 0 {
		t.Errorf("Sum of nothing: %x, %x", Sum(nil), Sum([]byte{}))
	}
	if a, b := Seal(nil), Seal([]byte{}); !bytes.Equal(a, b) || len(a) != 4 {
		t.Errorf("Seal of nothing: %x, %x", a, b)
	}
	checkOpen(t, nil, nil, false)
	checkOpen(t, []byte{}, nil, false)
}

func TestP0_5AnswersRepeat(t *testing.T) {
	for _, b := range samples() {
		sum := Sum(b)
		Seal([]byte("between"))
		Open([]byte("between"))
		if Sum(b) != sum {
			t.Errorf("Sum(%.40x) answered twice, not the same", b)
		}
	}
}

func FuzzOpen(f *testing.F) {
	for _, s := range []string{"", "abc", "\x00\x00\x00\x00", "123456789\xcb\xf4\x39\x26"} {
		f.Add([]byte(s))
	}
	f.Fuzz(func(t *testing.T, b []byte) {
		if Sum(b) != crc32.ChecksumIEEE(b) {
			t.Errorf("Sum(%x): %08x", b, Sum(b))
		}
		checkOpen(t, Seal(b), b, true)
		x, ok := Open(b)
		if ok && !bytes.Equal(Seal(x), b) || !ok && x != nil {
			t.Errorf("Open(%x): %x, %v", b, x, ok)
		}
	})
}
