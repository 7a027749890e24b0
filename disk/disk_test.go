package disk_test

import (
	"bytes"
	"math"
	"math/rand"
	"slices"
	"testing"

	"sublet/api"
	"sublet/disk"
)

// edges: numbers of sectors, the least and the greatest among them, and those at
// which numbers of fewer bits would be taken for one another.
var edges = []int{math.MinInt, math.MinInt + 1, -1 << 32, -512, -256, -2, -1, 0, 1, 2, 3, 63, 64, 65, 255, 256, 511, 512, 513, 1 << 16, 1 << 32, 1<<32 + 1, 1 << 62, math.MaxInt - 1, math.MaxInt}

// full: a sector whose bytes are all c.
func full(c byte) []byte { return bytes.Repeat([]byte{c}, 64) }

// rising: so many bytes, no two of a sector's alike, from c on.
func rising(n int, c byte) []byte {
	b := make([]byte, n)
	for i := range b {
		b[i] = c + byte(i)
	}
	return b
}

// rows: so many sectors, no two neighbours alike.
func rows(n int) [][]byte {
	image := make([][]byte, n)
	for i := range image {
		image[i] = rising(64, byte(i*7+i/256))
	}
	return image
}

// copied: these sectors, in lists of their own.
func copied(image [][]byte) [][]byte {
	other := make([][]byte, len(image))
	for i, b := range image {
		other[i] = bytes.Clone(b)
	}
	return other
}

// alike: do two images have the same sectors?
func alike(a, b [][]byte) bool { return slices.EqualFunc(a, b, bytes.Equal) }

// model: what a disk has to keep.
type model struct {
	sectors [][]byte
	writes  int
	off     bool
	arming  []int // its number, if there is one
}

// write answers what Write has to.
func (m *model) write(i int, b []byte) api.Errno {
	if m.off {
		return api.ErrPower
	}
	if i < 0 || i >= len(m.sectors) || len(b) != 64 {
		return api.ErrRange
	}
	if len(m.arming) == 1 && m.arming[0] == 0 {
		m.off, m.arming = true, nil
		return api.ErrPower
	}
	m.sectors[i] = bytes.Clone(b)
	m.writes++
	if len(m.arming) == 1 {
		m.arming[0]--
	}
	return api.OK
}

// read answers what Read has to.
func (m *model) read(i int) ([]byte, api.Errno) {
	if m.off {
		return nil, api.ErrPower
	}
	if i < 0 || i >= len(m.sectors) {
		return nil, api.ErrRange
	}
	return m.sectors[i], api.OK
}

// arm does what Arm has to.
func (m *model) arm(k int) {
	m.arming = nil
	if k >= 0 {
		m.arming = []int{k}
	}
}

// copied: a model that goes on apart.
func (m model) copied() model {
	m.sectors = copied(m.sectors)
	m.arming = slices.Clone(m.arming)
	return m
}

// check holds all that a disk tells against the model.
func check(t *testing.T, d *disk.Disk, m model) {
	t.Helper()
	if d.Len() != len(m.sectors) || d.Writes() != m.writes || d.Off() != m.off {
		t.Fatalf("Len %d, Writes %d, Off %v, not %d, %d, %v", d.Len(), d.Writes(), d.Off(), len(m.sectors), m.writes, m.off)
	}
	if got := d.Image(); !alike(got, m.sectors) {
		t.Fatalf("Image %x, not %x", got, m.sectors)
	}
	for i := range m.sectors {
		checkRead(t, d, m, i)
	}
	for _, i := range append([]int{len(m.sectors)}, edges...) {
		checkRead(t, d, m, i)
	}
}

// checkRead holds what Read answers against the model.
func checkRead(t *testing.T, d *disk.Disk, m model, i int) {
	t.Helper()
	want, e := m.read(i)
	if got, bad := d.Read(i); bad != e || !bytes.Equal(got, want) {
		t.Fatalf("Read(%d) = %x, %d, not %x, %d", i, got, bad, want, e)
	}
}

// write plays a disk and the model, and holds all they tell against each other.
func write(t *testing.T, d *disk.Disk, m *model, i int, b []byte) api.Errno {
	t.Helper()
	want := m.write(i, b)
	if got := d.Write(i, b); got != want {
		t.Fatalf("Write(%d, %x) = %d, not %d", i, b, got, want)
	}
	check(t, d, *m)
	return want
}

// arm plays a disk and the model.
func arm(t *testing.T, d *disk.Disk, m *model, k int) {
	t.Helper()
	d.Arm(k)
	m.arm(k)
	check(t, d, *m)
}

// on plays a disk and the model.
func on(t *testing.T, d *disk.Disk, m *model) {
	t.Helper()
	d.On()
	m.off = false
	check(t, d, *m)
}

// blank: a disk of so many sectors of zeros, and its model.
func blank(t *testing.T, n int) (*disk.Disk, model) {
	t.Helper()
	d, e := disk.New(n)
	if d == nil || e != api.OK {
		t.Fatalf("New(%d) = %v, %d", n, d != nil, e)
	}
	m := model{}
	for range n {
		m.sectors = append(m.sectors, full(0))
	}
	check(t, d, m)
	return d, m
}

// of: a disk of these sectors, and its model.
func of(t *testing.T, image [][]byte) (*disk.Disk, model) {
	t.Helper()
	d, e := disk.From(image)
	if d == nil || e != api.OK {
		t.Fatalf("From of %d sectors = %v, %d", len(image), d != nil, e)
	}
	m := model{sectors: copied(image)}
	check(t, d, m)
	return d, m
}

// cut: a disk of so many sectors whose power is off, and its model.
func cut(t *testing.T, n int) (*disk.Disk, model) {
	t.Helper()
	d, m := of(t, rows(n))
	arm(t, d, &m, 0)
	if e := write(t, d, &m, 0, full(9)); e != api.ErrPower || !d.Off() {
		t.Fatalf("armed with 0: %d, Off %v", e, d.Off())
	}
	return d, m
}

// taken: how many writes the disk takes till its power fails, at most so many.
func taken(t *testing.T, d *disk.Disk, m *model, most int) int {
	t.Helper()
	for k := range most {
		if write(t, d, m, k%len(m.sectors), full(byte(k+1))) != api.OK {
			return k
		}
	}
	return most
}

func TestExampleOfTheDocument(t *testing.T) {
	d, e := disk.New(2)
	if e != api.OK {
		t.Fatalf("New(2): %d", e)
	}
	if e := d.Write(1, full(7)); e != api.OK || d.Writes() != 1 {
		t.Errorf("Write(1, 64 times 7) = %d, Writes %d", e, d.Writes())
	}
	if e := d.Write(2, full(7)); e != api.ErrRange {
		t.Errorf("Write(2, ..) = %d", e)
	}
	if e := d.Write(0, []byte{1, 2, 3}); e != api.ErrRange {
		t.Errorf("Write(0, 3 bytes) = %d", e)
	}
	d.Arm(1)
	if e := d.Write(0, full(8)); e != api.OK || d.Off() {
		t.Errorf("Write(0, 64 times 8) = %d, Off %v", e, d.Off())
	}
	if e := d.Write(0, full(9)); e != api.ErrPower || !d.Off() {
		t.Errorf("Write(0, 64 times 9) = %d, Off %v", e, d.Off())
	}
	if b, e := d.Read(0); len(b) != 0 || e != api.ErrPower {
		t.Errorf("Read(0) while the power is off = %x, %d", b, e)
	}
	if got := d.Image(); !alike(got, [][]byte{full(8), full(7)}) {
		t.Errorf("Image %x", got)
	}
	d.On()
	if b, e := d.Read(0); !bytes.Equal(b, full(8)) || e != api.OK {
		t.Errorf("Read(0) = %x, %d", b, e)
	}
	for _, n := range []int{0, 513} {
		if d, e := disk.New(n); d != nil || e != api.ErrRange {
			t.Errorf("New(%d) = %v, %d", n, d != nil, e)
		}
	}
	if d, e := disk.From(nil); d != nil || e != api.ErrRange {
		t.Errorf("From(none) = %v, %d", d != nil, e)
	}
}

// Types.

func TestNilDisk(t *testing.T) {
	var d *disk.Disk
	for _, i := range edges {
		for _, b := range [][]byte{nil, {}, full(1), make([]byte, 63), make([]byte, 65)} {
			if e := d.Write(i, b); e != api.ErrNil {
				t.Errorf("Write(%d, %x) = %d", i, b, e)
			}
		}
		if b, e := d.Read(i); len(b) != 0 || e != api.ErrNil {
			t.Errorf("Read(%d) = %x, %d", i, b, e)
		}
		d.Arm(i)
		d.On()
		if d.Off() || d.Writes() != 0 || d.Len() != 0 || len(d.Image()) != 0 {
			t.Errorf("Off %v, Writes %d, Len %d, Image %x", d.Off(), d.Writes(), d.Len(), d.Image())
		}
	}
	if d != nil {
		t.Error("it has become another")
	}
}

// A disk that neither New nor From made has no sectors; since there is none to
// be written, its power never fails.
func TestZeroDisk(t *testing.T) {
	d, m := &disk.Disk{}, model{}
	check(t, d, m)
	for _, k := range []int{-1, 0, 1, math.MaxInt} {
		arm(t, d, &m, k)
		for _, i := range edges {
			if e := write(t, d, &m, i, full(1)); e != api.ErrRange {
				t.Errorf("Write(%d, ..) = %d", i, e)
			}
		}
		on(t, d, &m)
	}
}

// P9.1.

func TestNewOfAnyNumber(t *testing.T) {
	for _, n := range edges {
		if n >= 1 && n <= 512 {
			blank(t, n)
		} else if d, e := disk.New(n); d != nil || e != api.ErrRange {
			t.Errorf("New(%d) = %v, %d", n, d != nil, e)
		}
	}
}

func TestNewOfEachNumber(t *testing.T) {
	for n := 1; n <= 512; n++ {
		d, e := disk.New(n)
		if e != api.OK || d.Len() != n || d.Writes() != 0 || d.Off() {
			t.Fatalf("New(%d) = %d, Len %d, Writes %d, Off %v", n, e, d.Len(), d.Writes(), d.Off())
		}
		if d, e := disk.From(rows(n)); e != api.OK || d.Len() != n || !alike(d.Image(), rows(n)) {
			t.Fatalf("From of %d sectors = %d", n, e)
		}
	}
}

// Nothing is armed: as many writes are taken as come.
func TestNewIsNotArmed(t *testing.T) {
	for _, n := range []int{1, 2, 512} {
		d, m := blank(t, n)
		if got := taken(t, d, &m, 50); got != 50 || d.Writes() != 50 {
			t.Errorf("New(%d): %d writes taken, Writes %d", n, got, d.Writes())
		}
		d, m = of(t, rows(n))
		if got := taken(t, d, &m, 50); got != 50 || d.Writes() != 50 {
			t.Errorf("From of %d sectors: %d writes taken, Writes %d", n, got, d.Writes())
		}
	}
}

func TestFromOfAnyNumber(t *testing.T) {
	for _, n := range []int{1, 2, 3, 255, 256, 257, 511, 512} {
		of(t, rows(n))
	}
	for _, image := range [][][]byte{nil, {}, make([][]byte, 0, 5), rows(5)[:0], rows(513), rows(514), rows(1024), rows(1 << 16)} {
		if d, e := disk.From(image); d != nil || e != api.ErrRange {
			t.Errorf("From of %d sectors = %v, %d", len(image), d != nil, e)
		}
	}
}

// sizes: of bytes that are no sector's, and of those that are.
var sizes = []int{0, 1, 32, 63, 64, 65, 127, 128, 192, 256 + 64, 1 << 16, 1<<16 + 64}

func TestFromOfSectorsOfAnySize(t *testing.T) {
	for _, n := range []int{1, 2, 3, 511, 512} {
		for _, at := range []int{0, n / 2, n - 1} {
			for _, size := range sizes {
				image := rows(n)
				image[at] = rising(size, 5)
				if size == 64 {
					of(t, image)
				} else if d, e := disk.From(image); d != nil || e != api.ErrRange {
					t.Errorf("From of %d sectors, number %d of %d bytes = %v, %d", n, at, size, d != nil, e)
				}
			}
			image := rows(n)
			image[at] = nil
			if d, e := disk.From(image); d != nil || e != api.ErrRange {
				t.Errorf("From of %d sectors, number %d of none = %v, %d", n, at, d != nil, e)
			}
		}
	}
}

// What counts is each sector by itself: neither all bytes together nor the room
// behind a sector's end.
func TestFromCountsEachSector(t *testing.T) {
	for _, image := range [][][]byte{
		{make([]byte, 63), make([]byte, 65)}, {make([]byte, 128), nil}, {make([]byte, 128)}, {nil, nil}, {{}},
		{make([]byte, 63, 64)}, {full(1), make([]byte, 0, 64)}, {make([]byte, 65, 200), full(1)}, make([][]byte, 512), make([][]byte, 513),
	} {
		if d, e := disk.From(image); d != nil || e != api.ErrRange {
			t.Errorf("From(%x) = %v, %d", image, d != nil, e)
		}
	}
	of(t, [][]byte{make([]byte, 64, 100), rising(200, 3)[:64], rising(200, 3)[70:134]})
}

// An image is all that a disk is made of: neither its count nor its power nor its
// arming goes along.
func TestFromOfAnImage(t *testing.T) {
	d, m := cut(t, 3)
	on(t, d, &m)
	write(t, d, &m, 1, full(4))
	arm(t, d, &m, 1)
	write(t, d, &m, 2, full(5))
	other, n := of(t, d.Image())
	if got := taken(t, other, &n, 20); got != 20 {
		t.Errorf("%d writes taken", got)
	}
	check(t, d, m)
	if e := write(t, d, &m, 0, full(6)); e != api.ErrPower {
		t.Errorf("armed with 0: %d", e)
	}
	of(t, d.Image())
}

// P9.2.

func TestWriteAtAnyNumber(t *testing.T) {
	for _, n := range []int{1, 2, 3, 49, 511, 512} {
		d, m := of(t, rows(n))
		for c, i := range append([]int{n - 1, n, n / 2}, edges...) {
			want := api.ErrRange
			if i >= 0 && i < n {
				want = api.OK
			}
			if e := write(t, d, &m, i, rising(64, byte(100+c))); e != want {
				t.Errorf("Write(%d, ..) of %d sectors = %d, not %d", i, n, e, want)
			}
		}
	}
}

func TestWriteOfEachSector(t *testing.T) {
	d, m := of(t, rows(512))
	for i := range 512 {
		b := rising(64, byte(i*11+i/256+1))
		m.write(i, b)
		if e := d.Write(i, b); e != api.OK {
			t.Fatalf("Write(%d, ..) = %d", i, e)
		}
		checkRead(t, d, m, i)
	}
	check(t, d, m)
}

func TestWriteOfAnySize(t *testing.T) {
	for _, n := range []int{1, 2, 512} {
		d, m := of(t, rows(n))
		for _, size := range sizes {
			for _, i := range []int{0, n - 1, n, -1} {
				want := api.ErrRange
				if size == 64 && i >= 0 && i < n {
					want = api.OK
				}
				if e := write(t, d, &m, i, rising(size, 200)); e != want {
					t.Errorf("Write(%d, %d bytes) of %d sectors = %d, not %d", i, size, n, e, want)
				}
			}
		}
		for _, b := range [][]byte{nil, {}, make([]byte, 0, 64), make([]byte, 63, 64), make([]byte, 65, 128)} {
			if e := write(t, d, &m, 0, b); e != api.ErrRange {
				t.Errorf("Write(0, %x) = %d", b, e)
			}
		}
		if e := write(t, d, &m, 0, rising(100, 1)[:64]); e != api.OK {
			t.Errorf("Write(0, 64 of 100 bytes) = %d", e)
		}
	}
}

// The same bytes written again are a write as any other.
func TestWriteOfWhatIsThere(t *testing.T) {
	d, m := blank(t, 2)
	arm(t, d, &m, 3)
	for range 3 {
		if e := write(t, d, &m, 0, full(0)); e != api.OK {
			t.Errorf("Write(0, what is there) = %d", e)
		}
	}
	if e := write(t, d, &m, 0, full(0)); e != api.ErrPower || d.Writes() != 3 {
		t.Errorf("Write(0, what is there) = %d, Writes %d", e, d.Writes())
	}
}

// Each byte of a sector is written and read at its place.
func TestEachByteOfASector(t *testing.T) {
	d, m := blank(t, 3)
	for k := range 64 {
		for _, c := range []byte{1, 127, 128, 255} {
			b := full(0)
			b[k] = c
			write(t, d, &m, 1, b)
		}
	}
}

// While the power is off, each call says so, ahead of a sector that isn't there
// and of bytes that are no sector's.
func TestPowerIsNamedFirst(t *testing.T) {
	for _, n := range []int{1, 2, 512} {
		d, m := cut(t, n)
		for _, i := range append([]int{n - 1, n}, edges...) {
			for _, b := range [][]byte{nil, make([]byte, 63), full(5), make([]byte, 65)} {
				if e := d.Write(i, b); e != api.ErrPower {
					t.Errorf("Write(%d, %x) while the power is off = %d", i, b, e)
				}
			}
			if b, e := d.Read(i); len(b) != 0 || e != api.ErrPower {
				t.Errorf("Read(%d) while the power is off = %x, %d", i, b, e)
			}
		}
		check(t, d, m)
	}
}

// A sector that isn't there, and bytes that are no sector's, are named ahead of
// an arming with 0, and don't use it up.
func TestRangeIsNamedAheadOfAnArming(t *testing.T) {
	for _, n := range []int{1, 2, 512} {
		d, m := of(t, rows(n))
		arm(t, d, &m, 0)
		for _, i := range append([]int{n}, edges...) {
			for _, b := range [][]byte{nil, make([]byte, 63), full(5), make([]byte, 65)} {
				if i >= 0 && i < n && len(b) == 64 {
					continue
				}
				if e := d.Write(i, b); e != api.ErrRange {
					t.Errorf("Write(%d, %x) armed with 0 = %d", i, b, e)
				}
			}
		}
		check(t, d, m)
		if e := write(t, d, &m, n-1, full(5)); e != api.ErrPower || !d.Off() {
			t.Errorf("armed with 0: %d, Off %v", e, d.Off())
		}
	}
}

// Nor do they use up an arming with more.
func TestRefusedWritesUseUpNoArming(t *testing.T) {
	d, m := of(t, rows(3))
	arm(t, d, &m, 2)
	for range 3 {
		write(t, d, &m, 3, full(1))
		write(t, d, &m, -1, full(1))
		write(t, d, &m, 0, make([]byte, 63))
		write(t, d, &m, 0, nil)
	}
	if got := taken(t, d, &m, 20); got != 2 || d.Writes() != 2 {
		t.Errorf("%d writes taken, Writes %d", got, d.Writes())
	}
}

// Reads use up no arming, and are no writes; an arming with 0 stops none.
func TestReadsAreNoWrites(t *testing.T) {
	d, m := of(t, rows(4))
	arm(t, d, &m, 1)
	for range 5 {
		check(t, d, m)
	}
	if e := write(t, d, &m, 3, full(1)); e != api.OK {
		t.Errorf("armed with 1: %d", e)
	}
	for range 5 {
		check(t, d, m)
	}
	if b, e := d.Read(3); !bytes.Equal(b, full(1)) || e != api.OK {
		t.Errorf("Read(3) of a disk armed with 0 = %x, %d", b, e)
	}
	if e := write(t, d, &m, 3, full(2)); e != api.ErrPower {
		t.Errorf("armed with 0: %d", e)
	}
}

// The failure takes the arming with it: behind On, writes are taken without end.
func TestFailureEndsTheArming(t *testing.T) {
	for _, k := range []int{0, 1, 2, 7} {
		d, m := of(t, rows(3))
		arm(t, d, &m, k)
		if got := taken(t, d, &m, 20); got != k {
			t.Errorf("armed with %d: %d writes taken", k, got)
		}
		on(t, d, &m)
		if got := taken(t, d, &m, 20); got != 20 || d.Writes() != k+20 {
			t.Errorf("armed no more: %d writes taken, Writes %d", got, d.Writes())
		}
	}
}

// P9.3.

func TestArmWithAnyNumber(t *testing.T) {
	for _, k := range edges {
		d, m := of(t, rows(2))
		arm(t, d, &m, k)
		want := 70
		if k >= 0 {
			want = min(k, 70)
		}
		if got := taken(t, d, &m, 70); got != want || d.Writes() != want || d.Off() != (want < 70) {
			t.Errorf("armed with %d: %d writes taken, Writes %d, Off %v", k, got, d.Writes(), d.Off())
		}
	}
}

// Of two armings, the latter counts, whatever the former was and however much of
// it is used up.
func TestArmTwice(t *testing.T) {
	for _, first := range edges {
		for _, second := range []int{math.MinInt, -1, 0, 1, 2, 5, math.MaxInt} {
			for between := range 3 {
				d, m := of(t, rows(2))
				arm(t, d, &m, first)
				for k := range between {
					write(t, d, &m, 1, full(byte(k)))
				}
				on(t, d, &m)
				arm(t, d, &m, second)
				want := 8
				if second >= 0 {
					want = min(second, 8)
				}
				if got := taken(t, d, &m, 8); got != want {
					t.Errorf("armed with %d, %d writes, armed with %d: %d writes taken", first, between, second, got)
				}
			}
		}
	}
}

// An arming is no power: it neither cuts it nor brings it back by itself.
func TestArmWhileThePowerIsOff(t *testing.T) {
	for _, k := range edges {
		d, m := cut(t, 2)
		arm(t, d, &m, k)
		if e := write(t, d, &m, 0, full(1)); e != api.ErrPower || !d.Off() {
			t.Errorf("armed with %d while the power is off: %d, Off %v", k, e, d.Off())
		}
		write(t, d, &m, 5, nil)
		on(t, d, &m)
		want := 70
		if k >= 0 {
			want = min(k, 70)
		}
		if got := taken(t, d, &m, 70); got != want {
			t.Errorf("armed with %d while the power was off: %d writes taken", k, got)
		}
	}
}

func TestOnWhileThePowerIsOn(t *testing.T) {
	d, m := of(t, rows(2))
	on(t, d, &m)
	on(t, d, &m)
	if got := taken(t, d, &m, 9); got != 9 {
		t.Errorf("not armed: %d writes taken", got)
	}
	for _, k := range []int{0, 1, 2, 5} {
		arm(t, d, &m, k)
		on(t, d, &m)
		on(t, d, &m)
		if got := taken(t, d, &m, 9); got != k {
			t.Errorf("armed with %d, On: %d writes taken", k, got)
		}
		on(t, d, &m)
	}
	arm(t, d, &m, 3)
	write(t, d, &m, 0, full(1))
	on(t, d, &m)
	if got := taken(t, d, &m, 9); got != 2 {
		t.Errorf("armed with 3, a write, On: %d writes taken", got)
	}
}

// An arming of a disk whose power is off stays over On, and over one more On.
func TestOnKeepsTheArming(t *testing.T) {
	for k := range 4 {
		d, m := cut(t, 2)
		arm(t, d, &m, k)
		on(t, d, &m)
		on(t, d, &m)
		if got := taken(t, d, &m, 9); got != k || !d.Off() {
			t.Errorf("armed with %d: %d writes taken, Off %v", k, got, d.Off())
		}
		on(t, d, &m)
		if got := taken(t, d, &m, 9); got != 9 || d.Off() {
			t.Errorf("armed no more: %d writes taken, Off %v", got, d.Off())
		}
	}
}

// Writes counts none but those that answered OK, over failures too.
func TestWritesOverFailures(t *testing.T) {
	d, m := of(t, rows(3))
	sum := 0
	for k := range 10 {
		arm(t, d, &m, k)
		taken(t, d, &m, 20)
		write(t, d, &m, 0, full(1))
		on(t, d, &m)
		write(t, d, &m, 3, full(1))
		write(t, d, &m, 0, nil)
		sum += k
		if d.Writes() != sum {
			t.Errorf("Writes %d, not %d", d.Writes(), sum)
		}
	}
}

// P9.4.

func TestRefusedWriteChangesNoSector(t *testing.T) {
	for _, n := range []int{1, 2, 49, 512} {
		d, m := of(t, rows(n))
		for _, i := range []int{-1, n, 512, math.MinInt, math.MaxInt} {
			write(t, d, &m, i, full(255))
		}
		for _, b := range [][]byte{nil, make([]byte, 63), make([]byte, 65), make([]byte, 128)} {
			for _, i := range []int{0, n - 1} {
				write(t, d, &m, i, b)
			}
		}
		arm(t, d, &m, 0)
		for _, i := range []int{0, n - 1, 0} {
			write(t, d, &m, i, full(255))
		}
		on(t, d, &m)
		if d.Writes() != 0 || !alike(d.Image(), rows(n)) {
			t.Errorf("%d sectors: Writes %d, Image %x", n, d.Writes(), d.Image())
		}
	}
}

// someBytes: as often a sector's as not.
func someBytes(dice *rand.Rand) []byte {
	size := 64
	switch dice.Intn(10) {
	case 0:
		size = sizes[dice.Intn(len(sizes))]
	case 1:
		size = 60 + dice.Intn(8)
	}
	return rising(size, byte(dice.Intn(256)))
}

// someNumber: mostly of a sector that is there.
func someNumber(dice *rand.Rand, n int) int {
	switch dice.Intn(10) {
	case 0:
		return edges[dice.Intn(len(edges))]
	case 1:
		return dice.Intn(3) - 1 + n*dice.Intn(2)
	}
	return dice.Intn(n)
}

// play: a call of any kind, on a disk and on its model.
func play(t *testing.T, dice *rand.Rand, d *disk.Disk, m *model) {
	t.Helper()
	n := len(m.sectors)
	switch dice.Intn(12) {
	case 0:
		arm(t, d, m, dice.Intn(8)-1)
	case 1:
		arm(t, d, m, edges[dice.Intn(len(edges))])
	case 2, 3:
		on(t, d, m)
	case 4:
		checkRead(t, d, *m, someNumber(dice, n))
	default:
		write(t, d, m, someNumber(dice, n), someBytes(dice))
	}
}

func TestAnyCallsInAnyOrder(t *testing.T) {
	dice := rand.New(rand.NewSource(94))
	for round := range 100 {
		n := 1 + dice.Intn(12)
		d, m := of(t, rows(n))
		if round%2 == 0 {
			d, m = blank(t, n)
		}
		for range 200 {
			play(t, dice, d, &m)
		}
	}
}

// R4.

// What the calls that were refused were asked for is told by no later one.
func TestRefusedCallsLeaveNothing(t *testing.T) {
	dice := rand.New(rand.NewSource(95))
	for range 50 {
		n := 1 + dice.Intn(6)
		plain, m := of(t, rows(n))
		pestered, _ := of(t, rows(n))
		for range 60 {
			k, i, b := dice.Intn(10), dice.Intn(n), rising(64, byte(dice.Intn(256)))
			pestered.Write(n, b)
			pestered.Write(-1-k, b)
			pestered.Write(i, b[:63-k])
			pestered.Read(n + k)
			disk.From(append(pestered.Image(), nil))
			switch k {
			case 0:
				arm(t, plain, &m, i)
				pestered.Arm(i)
			case 1, 2:
				on(t, plain, &m)
				pestered.On()
			default:
				want := write(t, plain, &m, i, b)
				if e := pestered.Write(i, b); e != want {
					t.Fatalf("Write(%d, ..) = %d, not %d", i, e, want)
				}
			}
			check(t, pestered, m)
		}
	}
}

// R5.

// withRoom: these bytes, with spare room behind their end, filled with a mark.
func withRoom(b []byte, mark byte) []byte {
	room := bytes.Repeat([]byte{mark}, len(b)+70)
	copy(room, b)
	return room[:len(b)]
}

// fill: all of a list, its spare room too.
func fill(b []byte, c byte) {
	b = b[:cap(b)]
	for i := range b {
		b[i] = c
	}
}

// Whether they are taken or refused, bytes that are handed in stay as they are.
func TestBytesHandedInStayAsTheyAre(t *testing.T) {
	for _, k := range []int{-1, 0, 1, 2} {
		for _, size := range sizes {
			d, m := of(t, rows(2))
			arm(t, d, &m, k)
			b := withRoom(rising(size, 9), 77)
			before := bytes.Clone(b[:cap(b)])
			for _, i := range []int{0, 1, 2, -1, 0} {
				write(t, d, &m, i, b)
			}
			on(t, d, &m)
			write(t, d, &m, 0, full(3))
			if !bytes.Equal(b[:cap(b)], before) {
				t.Errorf("%d bytes, armed with %d: they have become %x", size, k, b[:cap(b)])
			}
		}
	}
}

// What is done to the bytes behind the Write reaches no sector.
func TestBytesHandedInAreNotKept(t *testing.T) {
	d, m := blank(t, 3)
	b := withRoom(full(0), 77)
	for c := range 9 {
		fill(b, byte(c))
		write(t, d, &m, c%3, b)
		fill(b, 200)
		check(t, d, m)
	}
	if !alike(d.Image(), [][]byte{full(6), full(7), full(8)}) {
		t.Errorf("Image %x", d.Image())
	}
}

// An image, its sectors and the room behind them stay as they are, whether they
// make a disk or not, and whatever is done to the disk.
func TestImagesHandedInStayAsTheyAre(t *testing.T) {
	for _, size := range []int{64, 63, 65, 0} {
		rowsBehind := rows(6)
		for i, b := range rowsBehind {
			rowsBehind[i] = withRoom(b, 77)
		}
		image := rowsBehind[:4]
		image[3] = withRoom(rising(size, 3), 78)
		firsts, before := []*byte{}, [][]byte{}
		for _, b := range rowsBehind {
			firsts = append(firsts, &b[:1][0])
			before = append(before, bytes.Clone(b[:cap(b)]))
		}
		if d, e := disk.From(image); e == api.OK {
			for i := range 4 {
				d.Write(i, full(99))
				b, _ := d.Read(i)
				fill(b, 98)
			}
		}
		for i, b := range rowsBehind {
			if &b[:1][0] != firsts[i] || !bytes.Equal(b[:cap(b)], before[i]) {
				t.Errorf("of %d bytes: sector %d has become %x", size, i, b[:cap(b)])
			}
		}
		if len(image[3]) != size {
			t.Errorf("of %d bytes: they have become %d", size, len(image[3]))
		}
	}
}

// What is done to an image behind From reaches no disk.
func TestImagesHandedInAreNotKept(t *testing.T) {
	image := rows(4)
	for i, b := range image {
		image[i] = withRoom(b, 77)
	}
	d, m := of(t, image)
	for i, b := range image {
		fill(b, byte(200+i))
		check(t, d, m)
	}
	for i := range image {
		image[i] = nil
		check(t, d, m)
	}
}

// One list that stands for several sectors is several sectors.
func TestOneListForSeveralSectors(t *testing.T) {
	one := full(1)
	d, m := of(t, [][]byte{one, one, one})
	write(t, d, &m, 1, full(2))
	if !alike(d.Image(), [][]byte{full(1), full(2), full(1)}) {
		t.Errorf("Image %x", d.Image())
	}
	write(t, d, &m, 0, one)
	write(t, d, &m, 2, one)
	fill(one, 9)
	check(t, d, m)
}

// R6.

// What is done to bytes that were answered, their spare room too, reaches
// neither the disk nor other answers.
func TestBytesAnsweredAreNobodyElses(t *testing.T) {
	d, m := of(t, rows(3))
	var lists [][]byte
	for i := range 3 {
		for range 2 {
			b, _ := d.Read(i)
			lists = append(lists, b)
		}
	}
	lists = append(lists, d.Image()...)
	lists = append(lists, d.Image()...)
	for k, b := range lists {
		fill(b, byte(100+k))
		check(t, d, m)
	}
	write(t, d, &m, 0, lists[1])
	fill(lists[1], 101)
	check(t, d, m)
	for i := range 3 {
		write(t, d, &m, i, full(50))
	}
	for k, b := range lists {
		if !bytes.Equal(b[:cap(b)], bytes.Repeat([]byte{byte(100 + k)}, cap(b))) {
			t.Errorf("answer %d has become %x", k, b[:cap(b)])
		}
	}
}

// Images share no list of their sectors with one another or with the disk.
func TestImagesAnsweredAreNobodyElses(t *testing.T) {
	d, m := of(t, rows(3))
	first, second := d.Image(), d.Image()
	first = first[:cap(first)]
	for i := range first {
		first[i] = full(77)
	}
	check(t, d, m)
	if !alike(second, rows(3)) {
		t.Errorf("the other image has become %x", second)
	}
	write(t, d, &m, 1, full(5))
	if !alike(second, rows(3)) {
		t.Errorf("an image has gone on with the disk: %x", second)
	}
}

// Nor does a disk share anything with the image that it was made of.
func TestDiskOfAnotherDisksImage(t *testing.T) {
	first, m := of(t, rows(4))
	image := first.Image()
	second, n := of(t, image)
	write(t, first, &m, 0, full(1))
	write(t, second, &n, 1, full(2))
	check(t, first, m)
	check(t, second, n)
	if !alike(image, rows(4)) {
		t.Errorf("the image has become %x", image)
	}
}

// R7.

// Disks that were made apart, and such as were copied, go on apart.
func TestDisksDoNotTouchEachOther(t *testing.T) {
	dice := rand.New(rand.NewSource(97))
	var disks []*disk.Disk
	var models []model
	add := func(d *disk.Disk, m model) {
		other := *d
		disks = append(disks, d, &other)
		models = append(models, m, m.copied())
	}
	for _, n := range []int{3, 3, 8} {
		add(of(t, rows(n)))
		add(blank(t, n))
		add(cut(t, n))
	}
	for range 3000 {
		i := dice.Intn(len(disks))
		play(t, dice, disks[i], &models[i])
		j := dice.Intn(len(disks))
		check(t, disks[j], models[j])
	}
	for j, d := range disks {
		check(t, d, models[j])
	}
}

// The power of one disk fails, and no other one's.
func TestPowerFailsOfOneDiskAlone(t *testing.T) {
	first, m := of(t, rows(2))
	second, n := of(t, rows(2))
	arm(t, first, &m, 0)
	write(t, second, &n, 0, full(1))
	write(t, first, &m, 0, full(1))
	if !first.Off() || second.Off() {
		t.Errorf("Off %v and %v", first.Off(), second.Off())
	}
	arm(t, second, &n, 0)
	on(t, second, &n)
	check(t, first, m)
	on(t, first, &m)
	write(t, first, &m, 1, full(2))
	check(t, second, n)
	if first.Writes() != 1 || second.Writes() != 1 {
		t.Errorf("Writes %d and %d", first.Writes(), second.Writes())
	}
}

// What is asked is told the same each time, and changes nothing itself.
func TestAskedTwiceIsToldTwice(t *testing.T) {
	d, m := of(t, rows(5))
	for _, k := range []int{-1, 0, 3} {
		arm(t, d, &m, k)
		for range 10 {
			check(t, d, m)
		}
		taken(t, d, &m, 6)
		for range 10 {
			check(t, d, m)
		}
		on(t, d, &m)
	}
}
