package stable

import (
	"bytes"
	"encoding/binary"
	"hash/crc32"
	"math"
	"math/rand"
	"slices"
	"testing"

	"curfew/api"
)

const greatest = int64(1) << 40 // of starts and of views

// lasting are numbers that a Disk may have: those about its bounds, and those where the count of bytes turns.
func lasting() []int64 {
	l := []int64{0, 1, 2, 3, 1 << 31, 1<<32 - 1, 1 << 32, 1<<32 + 1, greatest - 2, greatest - 1, greatest}
	for bits := 6; bits < 40; bits += 7 {
		l = append(l, 1<<bits-1, 1<<bits, 1<<bits+1)
	}
	return l
}

// noNumbers are those that a Disk never has: next to the bounds, and those that a narrower number would take for good ones.
func noNumbers() []int64 {
	l := []int64{-greatest, 1 << 41, -1 << 41, 1 << 48, 1<<48 + 3, 1 << 62, -1 << 62, -1<<32 + 1, -1 << 32, 1<<62 + 5}
	for d := range int64(4) {
		l = append(l, -1-d, greatest+1+d, math.MaxInt64-d, math.MinInt64+d)
	}
	return l
}

// model is what lasts, by the words of the chapter: all starts and all promises that were taken.
type model struct {
	boot  int64
	views []int64
}

func (x *model) start() int64 {
	if x.boot == greatest {
		return 0
	}
	x.boot++
	return x.boot
}

func (x *model) view() int64 { return slices.Max(append([]int64{0}, x.views...)) }

func (x *model) promise(view int64) bool {
	if view <= x.view() || view > greatest {
		return false
	}
	x.views = append(x.views, view)
	return true
}

func (x *model) bytes() []byte { return raw(x.boot, x.view()) }

// read takes the numbers out of b, if it is what some Disk would give.
func (x *model) read(b []byte) bool {
	if len(b) < 4 || !bytes.Equal(seal(b[:len(b)-4]), b) {
		return false
	}
	var l []int64
	var n, weight int64 = 0, 1
	for _, c := range b[:len(b)-4] {
		if weight > 1<<49 {
			return false
		}
		n += int64(c%128) * weight
		weight *= 128
		if c < 128 {
			l = append(l, n)
			n, weight = 0, 1
		}
	}
	if len(l) != 2 || l[0]%2 == 1 || l[1]%2 == 1 || l[0] > 2*greatest || l[1] > 2*greatest || !bytes.Equal(raw(l[0]/2, l[1]/2), b) {
		return false
	}
	x.boot, x.views = l[0]/2, []int64{l[1] / 2}
	return true
}

// sevens is a number's bytes, by the words of num's chapter.
func sevens(n int64) []byte {
	u := 2 * uint64(n)
	if n < 0 {
		u = 2*uint64(-n) - 1
	}
	var b []byte
	for u >= 128 {
		b = append(b, byte(u%128+128))
		u /= 128
	}
	return append(b, byte(u))
}

func seal(b []byte) []byte {
	return binary.BigEndian.AppendUint32(slices.Clone(b), crc32.ChecksumIEEE(b))
}

func raw(l ...int64) []byte {
	var b []byte
	for _, n := range l {
		b = append(b, sevens(n)...)
	}
	return seal(b)
}

// diskOf is one that was read.
func diskOf(t *testing.T, boot, view int64) *Disk {
	t.Helper()
	d, err := Read(raw(boot, view))
	if d == nil || err != api.OK {
		t.Fatalf("Read(%x), of %d and %d: %v, %d", raw(boot, view), boot, view, d, err)
	}
	wantDisk(t, d, boot, view)
	return d
}

// wantDisk holds all that a Disk tells; telling it changes nothing.
func wantDisk(t *testing.T, d *Disk, boot, view int64) {
	t.Helper()
	for range 2 {
		if d.Boot() != boot || d.View() != view {
			t.Errorf("Boot %d, View %d; want %d, %d", d.Boot(), d.View(), boot, view)
		}
		if b := d.Bytes(); !bytes.Equal(b, raw(boot, view)) {
			t.Errorf("Bytes of %d, %d: %x; want %x", boot, view, b, raw(boot, view))
		}
	}
}

func wantStart(t *testing.T, d *Disk, want int64) {
	t.Helper()
	was := d.Boot()
	if got := d.Start(); got != want {
		t.Errorf("Start at %d: %d; want %d", was, got, want)
	}
}

func wantPromise(t *testing.T, d *Disk, view int64, want bool) {
	t.Helper()
	was := d.View()
	if got := d.Promise(view); got != want {
		t.Errorf("Promise(%d) at %d: %v; want %v", view, was, got, want)
	}
}

func wantNoDisk(t *testing.T, b []byte) {
	t.Helper()
	if d, err := Read(b); d != nil || err != api.ErrForm {
		t.Errorf("Read(%.40x), %d bytes: %v, %d; want nil, ErrForm", b, len(b), d, err)
	}
}

func TestP19_1ZeroDisk(t *testing.T) {
	var d Disk
	wantDisk(t, &d, 0, 0)
	wantDisk(t, new(Disk), 0, 0)
	wantStart(t, &d, 1)
	wantDisk(t, &d, 1, 0)
	wantPromise(t, new(Disk), 1, true)
}

func TestP19_1Start(t *testing.T) {
	d := diskOf(t, 0, 77)
	for boot := range int64(20000) {
		wantStart(t, d, boot+1)
		if d.Boot() != boot+1 {
			t.Fatalf("Boot: %d; want %d", d.Boot(), boot+1)
		}
	}
	wantDisk(t, d, 20000, 77)
}

func TestP19_1StartAtEachNumber(t *testing.T) {
	for _, boot := range lasting() {
		if boot == greatest {
			continue
		}
		d := diskOf(t, boot, 5)
		wantStart(t, d, boot+1)
		wantDisk(t, d, boot+1, 5)
	}
}

func TestP19_1TheLastStart(t *testing.T) {
	for _, view := range []int64{0, 7, greatest} {
		d := diskOf(t, greatest-2, view)
		wantStart(t, d, greatest-1)
		wantStart(t, d, greatest)
		for range 5 {
			wantStart(t, d, 0)
			wantDisk(t, d, greatest, view)
		}
	}
	// A promise is taken all the same.
	d := diskOf(t, greatest, 7)
	wantPromise(t, d, 8, true)
	wantStart(t, d, 0)
	wantDisk(t, d, greatest, 8)
}

func TestP19_1Promise(t *testing.T) {
	views := append(lasting(), noNumbers()...)
	for _, at := range lasting() {
		for _, view := range views {
			d, now := diskOf(t, 3, at), at
			if view > at && view <= greatest {
				now = view
			}
			wantPromise(t, d, view, now == view && view != at)
			wantDisk(t, d, 3, now)
			// It is not taken twice.
			wantPromise(t, d, view, false)
			wantPromise(t, d, at, false)
			wantDisk(t, d, 3, now)
		}
	}
}

func TestP19_1PromisesOneByOne(t *testing.T) {
	var d Disk
	for view := range int64(5000) {
		wantPromise(t, &d, view, view > 0)
		wantPromise(t, &d, view-1, false)
		wantPromise(t, &d, -view, false)
		if d.View() != view {
			t.Fatalf("View: %d; want %d", d.View(), view)
		}
	}
	wantDisk(t, &d, 0, 4999)
	wantPromise(t, &d, greatest+1, false)
	wantPromise(t, &d, greatest-1, true)
	wantPromise(t, &d, greatest, true)
	wantPromise(t, &d, greatest, false)
	wantPromise(t, &d, greatest+1, false)
	wantDisk(t, &d, 0, greatest)
}

func TestP19_1BytesKnown(t *testing.T) {
	for _, c := range []struct {
		boot, view int64
		want       []byte
	}{
		{0, 0, []byte{0, 0, 0x41, 0xd9, 0x12, 0xff}},
		{1, 0, []byte{2, 0, 0x73, 0xef, 0x70, 0x7d}},
		{0, 1, []byte{0, 2, 0xaf, 0xd7, 0x73, 0xd3}},
		{2, greatest, []byte{4, 0x80, 0x80, 0x80, 0x80, 0x80, 0x40, 0x87, 0x46, 0x2b, 0x47}},
	} {
		if b := diskOf(t, c.boot, c.view).Bytes(); !bytes.Equal(b, c.want) {
			t.Errorf("Bytes of %d, %d: %x; want %x", c.boot, c.view, b, c.want)
		}
		if d, err := Read(c.want); err != api.OK || d.Boot() != c.boot || d.View() != c.view {
			t.Errorf("Read(%x): %v, %d; want %d, %d", c.want, d, err, c.boot, c.view)
		}
	}
}

func TestP19_1ReadEachPair(t *testing.T) {
	for _, boot := range lasting() {
		for _, view := range lasting() {
			d := diskOf(t, boot, view)
			x, err := Read(d.Bytes())
			if err != api.OK {
				t.Fatalf("Read of Bytes, of %d, %d: %d", boot, view, err)
			}
			wantDisk(t, x, boot, view)
		}
	}
}

func TestP19_1ReadOfWrongNumbers(t *testing.T) {
	for _, n := range noNumbers() {
		for _, other := range append(lasting(), noNumbers()...) {
			wantNoDisk(t, raw(n, other))
			wantNoDisk(t, raw(other, n))
		}
	}
}

func TestP19_1ReadOfFewerOrMoreNumbers(t *testing.T) {
	wantNoDisk(t, raw())
	for _, a := range lasting() {
		wantNoDisk(t, raw(a))
		for _, b := range lasting() {
			for _, c := range []int64{0, 1, -1, 64, greatest, math.MinInt64} {
				wantNoDisk(t, raw(a, b, c))
			}
			wantNoDisk(t, raw(a, b, a, b))
		}
	}
}

func TestP19_1ReadOfEachOneByteChange(t *testing.T) {
	for _, b := range [][]byte{raw(0, 0), raw(1, 2), raw(300, 5), raw(5, 300), raw(greatest, greatest), raw(1<<20, 0)} {
		for i := range b {
			for by := 1; by < 256; by++ {
				c := slices.Clone(b)
				c[i] ^= byte(by)
				wantNoDisk(t, c)
			}
		}
	}
}

func TestP19_1ReadOfCuts(t *testing.T) {
	for _, b := range [][]byte{raw(0, 0), raw(1, 2), raw(300, 5), raw(greatest, greatest)} {
		for k := range b {
			wantNoDisk(t, b[:k])
			wantNoDisk(t, b[k+1:])
		}
		inner := b[:len(b)-4]
		for k := range inner {
			wantNoDisk(t, seal(inner[:k]))
			wantNoDisk(t, slices.Concat(inner[:k], b[len(inner):]))
		}
		wantNoDisk(t, inner)
	}
	wantNoDisk(t, seal(slices.Concat(sevens(300)[:1], sevens(5))))
	wantNoDisk(t, seal(slices.Concat(sevens(5), sevens(300)[:1])))
	wantNoDisk(t, seal(slices.Concat(sevens(5), sevens(greatest)[:5])))
}

func TestP19_1ReadOfBytesBehindAndAhead(t *testing.T) {
	for _, b := range [][]byte{raw(0, 0), raw(1, 2), raw(300, 5), raw(greatest, greatest)} {
		inner := b[:len(b)-4]
		for c := range 256 {
			wantNoDisk(t, append(slices.Clone(b), byte(c)))
			wantNoDisk(t, append([]byte{byte(c)}, b...))
			wantNoDisk(t, seal(append(slices.Clone(inner), byte(c))))
		}
		wantNoDisk(t, slices.Concat(b, b))
		wantNoDisk(t, seal(b))
		wantNoDisk(t, seal(slices.Concat(inner, inner)))
	}
}

// A number that is written longer than needed is not such bytes.
func TestP19_1ReadOfLongerNumbers(t *testing.T) {
	longer := func(n int64, by int) []byte {
		b := sevens(n)
		b[len(b)-1] += 128
		return append(append(b, bytes.Repeat([]byte{128}, by-1)...), 0)
	}
	for _, n := range lasting() {
		for by := 1; len(sevens(n))+by <= 11; by++ {
			wantNoDisk(t, seal(append(longer(n, by), sevens(7)...)))
			wantNoDisk(t, seal(append(sevens(7), longer(n, by)...)))
		}
	}
	// Nor is one beyond an int64, which would wrap to a good one.
	for _, last := range []byte{2, 4, 127, 128, 130} {
		beyond := append(append([]byte{0x84}, bytes.Repeat([]byte{0x80}, 8)...), last)
		wantNoDisk(t, seal(append(slices.Clone(beyond), 2)))
		wantNoDisk(t, seal(append([]byte{2}, beyond...)))
	}
}

func TestP19_1ReadOfAnotherSum(t *testing.T) {
	inner := append(sevens(3), sevens(9)...)
	sum := crc32.ChecksumIEEE(inner)
	for _, other := range []uint32{0, ^uint32(0), ^sum, sum + 1, sum - 1, sum << 8, crc32.Checksum(inner, crc32.MakeTable(crc32.Castagnoli))} {
		wantNoDisk(t, binary.BigEndian.AppendUint32(slices.Clone(inner), other))
	}
	wantNoDisk(t, binary.LittleEndian.AppendUint32(slices.Clone(inner), sum))
}

// Every sealed list of two bytes, and what is read is just what Bytes gives.
func TestP19_1ReadOfAllShortOnes(t *testing.T) {
	count := 0
	for i := range 1 << 16 {
		b := seal([]byte{byte(i >> 8), byte(i)})
		if checkRead(t, b) {
			count++
		}
	}
	if count != 64*64 {
		t.Errorf("%d are read; want %d", count, 64*64)
	}
}

// checkRead holds Read against the model, and tells whether it read a Disk.
func checkRead(t *testing.T, b []byte) bool {
	t.Helper()
	var x model
	if !x.read(b) {
		wantNoDisk(t, b)
		return false
	}
	d, err := Read(b)
	if d == nil || err != api.OK {
		t.Fatalf("Read(%x): %v, %d", b, d, err)
	}
	wantDisk(t, d, x.boot, x.view())
	return true
}

func TestP19_1NilDisk(t *testing.T) {
	var d *Disk
	for range 2 {
		if d.Start() != 0 || d.Boot() != 0 || d.View() != 0 || len(d.Bytes()) != 0 {
			t.Errorf("nil: %d, %d, %x", d.Boot(), d.View(), d.Bytes())
		}
		for _, view := range append(lasting(), noNumbers()...) {
			wantPromise(t, d, view, false)
		}
	}
}

func TestP0_1AnyBytes(t *testing.T) {
	wantNoDisk(t, nil)
	for size := range 70 {
		for _, c := range []byte{0, 1, 2, 127, 128, 255} {
			b := bytes.Repeat([]byte{c}, size)
			checkRead(t, b)
			checkRead(t, seal(b))
		}
	}
	for _, c := range []byte{0, 2, 128, 255} {
		wantNoDisk(t, bytes.Repeat([]byte{c}, 1<<22))
		wantNoDisk(t, seal(bytes.Repeat([]byte{c}, 1<<22)))
	}
}

func TestP0_3ArgumentsStayAsTheyAre(t *testing.T) {
	for _, good := range [][]byte{raw(3, 900), raw(3, -900), raw(3)} {
		room := append(slices.Clone(good), "spare room"...)
		b := room[:len(good)]
		d, _ := Read(b)
		if !bytes.Equal(b, good) || string(room[len(good):]) != "spare room" {
			t.Errorf("Read(%x): the list is %x now", good, room)
		}
		// Nor is it kept.
		clear(room)
		if d != nil {
			wantDisk(t, d, 3, 900)
			wantStart(t, d, 4)
			wantPromise(t, d, 901, true)
			wantDisk(t, d, 4, 901)
		}
		if !bytes.Equal(room, make([]byte, len(room))) {
			t.Errorf("Read kept its list: it is %x now", room)
		}
	}
}

func TestP0_3AnswersAreNewMemory(t *testing.T) {
	d := diskOf(t, 3, 900)
	a, b := d.Bytes(), d.Bytes()
	clear(a[:cap(a)])
	if !bytes.Equal(b, raw(3, 900)) {
		t.Errorf("two answers share memory: %x", b)
	}
	wantDisk(t, d, 3, 900)
	// What was told stays as it is.
	wantStart(t, d, 4)
	wantPromise(t, d, 901, true)
	if !bytes.Equal(b, raw(3, 900)) {
		t.Errorf("an answer turned into %x", b)
	}
}

func TestP0_4NilIsEmpty(t *testing.T) {
	wantNoDisk(t, nil)
	wantNoDisk(t, []byte{})
	wantNoDisk(t, raw(1, 2)[:0])
}

func TestP0_5DisksAreTheirOwn(t *testing.T) {
	b := raw(3, 900)
	x, _ := Read(b)
	y, _ := Read(b)
	copied := *x
	wantStart(t, x, 4)
	wantPromise(t, x, 950, true)
	wantDisk(t, y, 3, 900)
	wantDisk(t, &copied, 3, 900)
	wantPromise(t, y, 901, true)
	wantDisk(t, x, 4, 950)
	wantDisk(t, y, 3, 901)
	wantDisk(t, new(Disk), 0, 0)
}

// chosenView is one about what is promised, about the bounds, or anywhere.
func chosenView(now int64, next func(n int) int) int64 {
	switch next(8) {
	case 0:
		return noNumbers()[next(len(noNumbers()))]
	case 1:
		return lasting()[next(len(lasting()))]
	case 2:
		return greatest + int64(next(7)) - 5
	case 3:
		return int64(next(100)) - 50
	}
	return now + int64(next(7)) - 3
}

// step does what next chooses, to the Disk and to the model; it answers the Disk, and which kind of answer came.
func step(t *testing.T, d *Disk, x *model, next func(n int) int) (*Disk, string) {
	t.Helper()
	switch next(4) {
	case 0:
		want := x.start()
		wantStart(t, d, want)
		if want == 0 {
			return d, "the last start"
		}
		return d, "start"
	case 1, 2:
		view := chosenView(x.view(), next)
		want := x.promise(view)
		wantPromise(t, d, view, want)
		if want {
			return d, "promise"
		}
		return d, "none"
	}
	b := x.bytes()
	if next(3) == 0 {
		b = raw(greatest-int64(next(3)), x.view())
	}
	if next(3) == 0 {
		b[next(len(b))] ^= byte(next(256))
	}
	if !x.read(b) {
		wantNoDisk(t, b)
		return d, "not read"
	}
	d, err := Read(b)
	if d == nil || err != api.OK {
		t.Fatalf("Read(%x): %v, %d", b, d, err)
	}
	return d, "read"
}

// script holds a Disk against the model at each step, and tells how often each kind of answer came.
func script(t *testing.T, next func(n int) int, steps int) map[string]int {
	t.Helper()
	d, x, came := &Disk{}, &model{}, map[string]int{}
	for range steps {
		boot, view := d.Boot(), d.View()
		after, kind := step(t, d, x, next)
		if after == d && (d.Boot() < boot || d.View() < view) {
			t.Errorf("Boot %d, View %d fell to %d, %d", boot, view, d.Boot(), d.View())
		}
		d = after
		came[kind]++
		wantDisk(t, d, x.boot, x.view())
		if t.Failed() {
			t.FailNow()
		}
	}
	return came
}

func TestP19Scripts(t *testing.T) {
	all := map[string]int{}
	for seed := range int64(300) {
		for kind, n := range script(t, rand.New(rand.NewSource(seed)).Intn, 40) {
			all[kind] += n
		}
	}
	// The scripts are such that each kind of answer comes often.
	for _, kind := range []string{"start", "the last start", "promise", "none", "read", "not read"} {
		if all[kind] < 50 {
			t.Errorf("%d answers: %s", all[kind], kind)
		}
	}
}

func FuzzStable(f *testing.F) {
	f.Add([]byte{})
	f.Add([]byte{0, 0})
	f.Add(append(sevens(3), sevens(greatest)...))
	f.Add(append(sevens(greatest+1), sevens(-3)...))
	f.Add(raw(3, 5))
	f.Add([]byte("the quick brown fox jumps over the lazy dog"))
	f.Fuzz(func(t *testing.T, b []byte) {
		checkRead(t, b)
		checkRead(t, seal(b))
		next := func(n int) int {
			if len(b) == 0 {
				return 0
			}
			c := int(b[0])
			b = b[1:]
			return c % n
		}
		script(t, next, min(60, len(b)/3+1))
	})
}
