package sectors_test

import (
	"bytes"
	"encoding/binary"
	"hash/crc32"
	"math"
	"math/rand"
	"slices"
	"testing"

	"sublet/api"
	"sublet/sectors"
)

// edges: numbers, the least and the greatest among them, and those at which
// numbers of fewer bits would be taken for one another.
var edges = []int{math.MinInt, math.MinInt + 1, -1 << 62, -1<<32 + 1, -1 << 32, -1 << 31, -1 << 30, -256, -2, -1, 0, 1, 2, 255, 256, 257, 65535, 65536, 1<<24 - 1, 1 << 24, 1<<30 - 1, 1 << 30, 1<<30 + 1, 1 << 31, 1<<32 - 1, 1 << 32, 1<<32 + 1, 1<<32 + 1<<30, 1 << 62, math.MaxInt - 1, math.MaxInt}

// sizes of records: those at which one part more begins, and too long ones.
var sizes = []int{0, 1, 2, 46, 47, 48, 93, 94, 95, 140, 141, 142, 186, 187, 188, 189, 190, 235, 256, 1000}

// rising: so many bytes, no two neighbours alike and none a zero, from c on.
func rising(n int, c byte) []byte {
	b := make([]byte, n)
	for i := range b {
		b[i] = byte((int(c)+i)%255) + 1
	}
	return b
}

// raw: a sector of any fields, with a checksum that is right.
func raw(gen, seq uint32, index, parts, size byte, data []byte) []byte {
	b := binary.LittleEndian.AppendUint32(nil, gen)
	b = binary.LittleEndian.AppendUint32(b, seq)
	b = append(b, index, parts, size)
	b = append(b, data...)
	return summed(append(b, make([]byte, max(0, 60-len(b)))...))
}

// summed: the first 60 bytes, and their checksum behind.
func summed(b []byte) []byte {
	b = slices.Clone(b[:60])
	return binary.LittleEndian.AppendUint32(b, crc32.ChecksumIEEE(b))
}

// packed answers what Pack has to: it cuts off one part after the other, and
// says in all of them how many they have become when nothing is left.
func packed(gen, seq int, data []byte) ([][]byte, api.Errno) {
	if gen < 1 || gen > 1<<30 || seq < 0 || seq > 1<<30 {
		return nil, api.ErrRange
	}
	cut := [][]byte{data}
	for len(cut[len(cut)-1]) > 47 {
		last := cut[len(cut)-1]
		cut = append(cut[:len(cut)-1], last[:47], last[47:])
	}
	if len(cut) > 4 {
		return nil, api.ErrSpace
	}
	var l [][]byte
	for i, part := range cut {
		l = append(l, raw(uint32(gen), uint32(seq), byte(i), byte(len(cut)), byte(len(part)), part))
	}
	return l, api.OK
}

// looked answers what Look has to: it asks whether a record that has these bytes
// in this part, and any others in the parts ahead, has this sector.
func looked(b []byte) (api.Part, api.Errno) {
	if len(b) != 64 {
		return api.Part{}, api.ErrRecord
	}
	gen, seq := binary.LittleEndian.Uint32(b), binary.LittleEndian.Uint32(b[4:])
	index, parts, size := int(b[8]), int(b[9]), int(b[10])
	if index > 3 || parts > 4 || size > 47 {
		return api.Part{}, api.ErrRecord
	}
	// What is behind this part is as much as a record of so many parts may have.
	whole := append(make([]byte, index*47), b[11:11+size]...)
	if behind := parts - 1 - index; behind > 0 {
		whole = append(whole, make([]byte, behind*47)...)
	}
	l, e := packed(int(gen), int(seq), whole)
	if e != api.OK || index >= len(l) || !bytes.Equal(l[index], b) {
		return api.Part{}, api.ErrRecord
	}
	return api.Part{Gen: int(gen), Seq: int(seq), Index: index, Parts: parts, Data: bytes.Clone(b[11 : 11+size])}, api.OK
}

// scanned answers what Scan has to: record by record, each by one look at how
// long it says it is.
func scanned(l [][]byte, gen int) ([][]byte, int) {
	if len(l) == 0 {
		return nil, 0
	}
	var records [][]byte
	at := 0
	for at < len(l) {
		first, e := looked(l[at])
		if e != api.OK || at+first.Parts > len(l) {
			break
		}
		whole := []byte{}
		for i, b := range l[at : at+first.Parts] {
			want := api.Part{Gen: gen, Seq: len(records), Index: i, Parts: first.Parts}
			p, e := looked(b)
			want.Data = p.Data
			if e != api.OK || !alikeParts(p, want) {
				return records, at
			}
			whole = append(whole, p.Data...)
		}
		records = append(records, whole)
		at += first.Parts
	}
	return records, at
}

// alikeParts: are two parts the same?
func alikeParts(p, q api.Part) bool {
	return p.Gen == q.Gen && p.Seq == q.Seq && p.Index == q.Index && p.Parts == q.Parts && bytes.Equal(p.Data, q.Data)
}

// alike: do two lists have the same lists of bytes?
func alike(a, b [][]byte) bool { return slices.EqualFunc(a, b, bytes.Equal) }

// copied: these lists, in lists of their own.
func copied(l [][]byte) [][]byte {
	other := make([][]byte, len(l))
	for i, b := range l {
		other[i] = bytes.Clone(b)
	}
	return other
}

// joined: these lists of sectors, one behind the other.
func joined(lists ...[][]byte) [][]byte {
	var all [][]byte
	for _, l := range lists {
		all = append(all, l...)
	}
	return all
}

// checkPack holds what Pack answers against the oracle, and answers it.
func checkPack(t *testing.T, gen, seq int, data []byte) [][]byte {
	t.Helper()
	want, e := packed(gen, seq, data)
	got, bad := sectors.Pack(gen, seq, data)
	if bad != e || !alike(got, want) {
		t.Fatalf("Pack(%d, %d, %d bytes) = %x, %d, not %x, %d", gen, seq, len(data), got, bad, want, e)
	}
	return got
}

// checkLook holds what Look answers against the oracle, and answers the error.
func checkLook(t *testing.T, b []byte) api.Errno {
	t.Helper()
	want, e := looked(b)
	got, bad := sectors.Look(b)
	if bad != e || !alikeParts(got, want) {
		t.Fatalf("Look(%x) = %v, %d, not %v, %d", b, got, bad, want, e)
	}
	return e
}

// checkScan holds what Scan answers against the oracle, and answers it.
func checkScan(t *testing.T, l [][]byte, gen int) ([][]byte, int) {
	t.Helper()
	want, size := scanned(l, gen)
	got, n := sectors.Scan(l, gen)
	if n != size || !alike(got, want) {
		t.Fatalf("Scan(%x, %d) = %x, %d, not %x, %d", l, gen, got, n, want, size)
	}
	return got, n
}

// wantScan holds what Scan answers against records that are known.
func wantScan(t *testing.T, what string, l [][]byte, gen int, want [][]byte, size int) {
	t.Helper()
	got, n := checkScan(t, l, gen)
	if n != size || !alike(got, want) {
		t.Fatalf("%s: Scan = %x, %d, not %x, %d", what, got, n, want, size)
	}
}

// pack: the sectors of a record that is one.
func pack(t *testing.T, gen, seq int, data []byte) [][]byte {
	t.Helper()
	l := checkPack(t, gen, seq, data)
	if len(l) == 0 {
		t.Fatalf("Pack(%d, %d, %d bytes): no sector", gen, seq, len(data))
	}
	return l
}

// packAll: the sectors of records with the numbers 0, 1, 2, .. of a generation.
func packAll(t *testing.T, gen int, records [][]byte) [][]byte {
	t.Helper()
	var l [][]byte
	for n, data := range records {
		l = append(l, pack(t, gen, n, data)...)
	}
	return l
}

// Examples.

func TestExamplesOfTheDocument(t *testing.T) {
	b := make([]byte, 60)
	b[0], b[9] = 1, 1
	if l, e := sectors.Pack(1, 0, nil); e != api.OK || !alike(l, [][]byte{summed(b)}) {
		t.Errorf("Pack of nothing = %x, %d", l, e)
	}
	l, e := sectors.Pack(1, 2, rising(100, 0))
	if e != api.OK || len(l) != 3 {
		t.Fatalf("Pack of 100 bytes = %x, %d", l, e)
	}
	for i, size := range []int{47, 47, 6} {
		want := api.Part{Gen: 1, Seq: 2, Index: i, Parts: 3, Data: rising(100, 0)[i*47:][:size]}
		if p, e := sectors.Look(l[i]); e != api.OK || !alikeParts(p, want) {
			t.Errorf("part %d of 100 bytes = %v, %d", i, p, e)
		}
	}
	refusals := []struct {
		gen, seq, size int
		want           api.Errno
	}{{0, 0, 5, api.ErrRange}, {1, -1, 5, api.ErrRange}, {1, 0, 189, api.ErrSpace}}
	for _, c := range refusals {
		if l, e := sectors.Pack(c.gen, c.seq, make([]byte, c.size)); e != c.want || len(l) != 0 {
			t.Errorf("Pack(%d, %d, %d bytes) = %x, %d", c.gen, c.seq, c.size, l, e)
		}
	}
	two := [][]byte{[]byte("ab"), bytes.Repeat([]byte("x"), 50)}
	all := packAll(t, 1, two)
	wantScan(t, "both records", all, 1, two, 3)
	wantScan(t, "without the last sector", all[:2], 1, two[:1], 1)
	wantScan(t, "generation 2", all, 2, nil, 0)
}

// P10.1.

func TestPackAtEdges(t *testing.T) {
	for _, gen := range edges {
		for _, seq := range edges {
			for _, size := range sizes {
				checkPack(t, gen, seq, rising(size, byte(size)))
			}
		}
	}
}

func TestPackRefuses(t *testing.T) {
	for _, gen := range []int{math.MinInt, -1, 0, api.MaxGen + 1, 1 << 32, 1<<32 + 1, math.MaxInt} {
		for _, size := range []int{0, 5, 188} {
			if l, e := sectors.Pack(gen, 0, make([]byte, size)); e != api.ErrRange || len(l) != 0 {
				t.Errorf("Pack(%d, 0, %d bytes) = %x, %d", gen, size, l, e)
			}
		}
	}
	for _, seq := range []int{math.MinInt, -1, api.MaxGen + 1, 1 << 32, 1<<32 + 1, math.MaxInt} {
		for _, size := range []int{0, 5, 188} {
			if l, e := sectors.Pack(1, seq, make([]byte, size)); e != api.ErrRange || len(l) != 0 {
				t.Errorf("Pack(1, %d, %d bytes) = %x, %d", seq, size, l, e)
			}
		}
	}
	for _, size := range []int{189, 190, 235, 256 + 188, 1 << 16} {
		if l, e := sectors.Pack(1, 0, make([]byte, size)); e != api.ErrSpace || len(l) != 0 {
			t.Errorf("Pack(1, 0, %d bytes) = %x, %d", size, l, e)
		}
	}
}

// A generation or a number that is none is named ahead of bytes that are too many.
func TestRangeIsNamedAheadOfSpace(t *testing.T) {
	for _, c := range [][2]int{{0, 0}, {1, -1}, {0, -1}, {api.MaxGen + 1, 0}, {1, api.MaxGen + 1}, {math.MinInt, math.MaxInt}} {
		for _, size := range []int{189, 1000} {
			if l, e := sectors.Pack(c[0], c[1], make([]byte, size)); e != api.ErrRange || len(l) != 0 {
				t.Errorf("Pack(%d, %d, %d bytes) = %x, %d", c[0], c[1], size, l, e)
			}
		}
	}
}

// The least and the greatest generation and number are taken.
func TestPackTakesTheBounds(t *testing.T) {
	for _, gen := range []int{1, api.MaxGen} {
		for _, seq := range []int{0, 1, api.MaxGen} {
			for size := range 189 {
				l := pack(t, gen, seq, rising(size, byte(size)))
				if want := max(1, (size+46)/47); len(l) != want {
					t.Errorf("Pack(%d, %d, %d bytes): %d sectors, not %d", gen, seq, size, len(l), want)
				}
			}
		}
	}
}

// Zeros at a record's end are its bytes, too.
func TestZerosOfARecordAreItsBytes(t *testing.T) {
	for size := range 189 {
		for i, b := range pack(t, 1, 0, make([]byte, size)) {
			p, e := sectors.Look(b)
			if want := min(47, size-47*i); e != api.OK || !bytes.Equal(p.Data, make([]byte, want)) {
				t.Errorf("part %d of %d zeros = %x, %d", i, size, p.Data, e)
			}
		}
	}
}

func TestLookAtBytesOfAnotherLength(t *testing.T) {
	b := pack(t, 1, 0, rising(47, 0))[0]
	long := append(bytes.Clone(b), make([]byte, 64)...)
	for _, size := range []int{0, 1, 4, 8, 10, 11, 60, 63, 65, 128} {
		if p, e := sectors.Look(long[:size]); e != api.ErrRecord || !alikeParts(p, api.Part{}) {
			t.Errorf("Look of %d bytes = %v, %d", size, p, e)
		}
		checkLook(t, make([]byte, size))
	}
	if p, e := sectors.Look(nil); e != api.ErrRecord || !alikeParts(p, api.Part{}) {
		t.Errorf("Look(nil) = %v, %d", p, e)
	}
	for _, c := range []byte{0, 1, 255} {
		if e := checkLook(t, bytes.Repeat([]byte{c}, 64)); e != api.ErrRecord {
			t.Errorf("Look of 64 times %d: %d", c, e)
		}
	}
}

// A generation or a number that no record has is in no part's sector, though its
// checksum is right.
func TestLookAtGenerationsAndNumbers(t *testing.T) {
	words := []uint32{0, 1, 2, 255, 256, 1 << 16, 1<<30 - 1, 1 << 30, 1<<30 + 1, 1 << 31, 1<<31 + 1, 1<<32 - 1}
	for _, gen := range words {
		for _, seq := range words {
			want := api.OK
			if gen < 1 || gen > 1<<30 || seq > 1<<30 {
				want = api.ErrRecord
			}
			if e := checkLook(t, raw(gen, seq, 0, 1, 5, rising(5, 9))); e != want {
				t.Errorf("the generation %d, the number %d: %d", gen, seq, e)
			}
		}
	}
}

// Of all parts, numbers of parts and numbers of bytes, no others are told than
// those that records have.
func TestLookAtPartsAndSizes(t *testing.T) {
	for size := range 50 {
		for index := range 6 {
			for parts := range 7 {
				want := api.ErrRecord
				switch {
				case parts > 4 || index >= parts:
				case index < parts-1 && size == 47, index == parts-1 && size > 0 && size < 48, parts == 1 && size == 0:
					want = api.OK
				}
				b := raw(1, 0, byte(index), byte(parts), byte(size), rising(min(size, 49), 9))
				if e := checkLook(t, b); e != want {
					t.Errorf("part %d of %d, %d bytes: %d, not %d", index, parts, size, e, want)
				}
			}
		}
	}
}

// So with any bytes where the part, the number of parts and that of bytes stand.
func TestLookAtAnyBytesThere(t *testing.T) {
	some := []byte{0, 1, 2, 3, 4, 5, 6, 46, 47, 48, 49, 53, 54, 127, 128, 129, 130, 175, 250, 251, 252, 253, 254, 255}
	for _, index := range some {
		for _, parts := range some {
			for size := range 256 {
				b := raw(3, 7, index, parts, byte(size), rising(min(size, 49), 9))
				checkLook(t, b)
				if index > 3 || parts > 4 || parts == 0 || index >= parts || size > 47 {
					if _, e := sectors.Look(b); e != api.ErrRecord {
						t.Fatalf("part %d of %d, %d bytes: %d", index, parts, size, e)
					}
				}
			}
		}
	}
}

// Behind a part's bytes there are zeros alone, the two ahead of the checksum too.
func TestLookAtWhatIsBehindTheBytes(t *testing.T) {
	for size := range 48 {
		b := raw(1, 0, 0, 1, byte(size), rising(size, 9))
		if e := checkLook(t, b); e != api.OK {
			t.Fatalf("%d bytes: %d", size, e)
		}
		for at := 11 + size; at < 60; at++ {
			for _, c := range []byte{1, 128, 255} {
				other := bytes.Clone(b)
				other[at] = c
				if e := checkLook(t, summed(other)); e != api.ErrRecord {
					t.Errorf("%d bytes, %d at %d: %d", size, c, at, e)
				}
			}
		}
	}
}

// Each byte of a part is told from its place.
func TestEachByteOfAPart(t *testing.T) {
	for at := range 188 {
		data := make([]byte, 188)
		data[at] = 200
		for i, b := range pack(t, 5, 6, data) {
			want := api.Part{Gen: 5, Seq: 6, Index: i, Parts: 4, Data: data[47*i : 47*i+47]}
			if p, e := sectors.Look(b); e != api.OK || !alikeParts(p, want) {
				t.Errorf("the byte %d: part %d = %v, %d", at, i, p, e)
			}
		}
	}
}

// The checksum is that of layer 2, in its order of bytes.
func TestLookAtOtherChecksums(t *testing.T) {
	b := pack(t, 1, 0, []byte("ab"))[0]
	turned, none, whole := bytes.Clone(b), bytes.Clone(b), bytes.Clone(b)
	slices.Reverse(turned[60:])
	copy(none[60:], make([]byte, 4))
	binary.LittleEndian.PutUint32(whole[60:], crc32.ChecksumIEEE(b[:58]))
	for _, other := range [][]byte{turned, none, whole} {
		if e := checkLook(t, other); e != api.ErrRecord {
			t.Errorf("Look(%x): %d", other, e)
		}
	}
}

// P10.2.

func TestScanOfNothing(t *testing.T) {
	for _, gen := range edges {
		for _, l := range [][][]byte{nil, {}, {nil}, {{}}, {nil, nil}, {make([]byte, 64)}, {make([]byte, 63), make([]byte, 65)}} {
			wantScan(t, "nothing", l, gen, nil, 0)
		}
	}
}

// No other generation than the records' own tells them.
func TestScanOfAnotherGeneration(t *testing.T) {
	data := [][]byte{[]byte("ab"), rising(50, 0)}
	for _, gen := range []int{1, 2, 256, api.MaxGen} {
		l := packAll(t, gen, data)
		for _, other := range edges {
			if other != gen {
				wantScan(t, "another generation", l, other, nil, 0)
			}
		}
		wantScan(t, "its generation", l, gen, data, 3)
	}
}

// The first record has the number 0, each further one the next number.
func TestScanCountsTheNumbers(t *testing.T) {
	data := []byte("ab")
	for _, seq := range []int{1, 2, 255, 256, api.MaxGen} {
		wantScan(t, "a first number", pack(t, 1, seq, data), 1, nil, 0)
	}
	first := pack(t, 1, 0, data)
	for _, seq := range []int{0, 2, 3, 256, 257, 1<<16 + 1, 1<<24 + 1, api.MaxGen} {
		wantScan(t, "a second number", joined(first, pack(t, 1, seq, data)), 1, [][]byte{data}, 1)
	}
	wantScan(t, "the next number", joined(first, pack(t, 1, 1, data)), 1, [][]byte{data, data}, 2)
	wantScan(t, "a number twice", joined(first, first, pack(t, 1, 1, data)), 1, [][]byte{data}, 1)
	wantScan(t, "the other order", joined(pack(t, 1, 1, data), first), 1, nil, 0)
}

// Behind more records than a byte counts, the numbers go on.
func TestScanOfManyRecords(t *testing.T) {
	var data [][]byte
	for n := range 700 {
		data = append(data, rising(n%189, byte(n)))
	}
	l := packAll(t, 9, data)
	wantScan(t, "700 records", l, 9, data, len(l))
	wantScan(t, "and 700 more", joined(l, l), 9, data, len(l))
}

// Where a record's sectors are not just its parts, it doesn't stand, nor does
// any one behind it.
func TestScanEndsAtAMisfit(t *testing.T) {
	data := [][]byte{[]byte("ab"), rising(188, 3), rising(60, 5)}
	l := packAll(t, 1, data)
	a, b, c := l[:1], l[1:5], l[5:]
	three := pack(t, 1, 1, rising(141, 3))
	two := pack(t, 1, 1, rising(94, 3))
	elder, later := pack(t, 2, 1, data[1]), pack(t, 1, 2, data[1])
	cases := []struct {
		what string
		l    [][]byte
	}{
		{"the first part is missing", joined(a, b[1:], c)},
		{"the second part is missing", joined(a, b[:1], b[2:], c)},
		{"the last part is missing", joined(a, b[:3], c)},
		{"the last part is missing at the end", joined(a, b[:3])},
		{"the first part alone", joined(a, b[:1])},
		{"the first part twice", joined(a, b[:1], b, c)},
		{"the third part twice", joined(a, b[:3], b[2:], c)},
		{"two parts in the other order", joined(a, b[:1], b[2:3], b[1:2], b[3:], c)},
		{"all parts in the other order", joined(a, b[3:], b[2:3], b[1:2], b[:1], c)},
		{"a first part of another generation", joined(a, elder[:1], b[1:], c)},
		{"a part of another generation", joined(a, b[:2], elder[2:3], b[3:], c)},
		{"a last part of another generation", joined(a, b[:3], elder[3:], c)},
		{"a first part of another number", joined(a, later[:1], b[1:], c)},
		{"a part of another number", joined(a, b[:2], later[2:3], b[3:], c)},
		{"a last part of another number", joined(a, b[:3], later[3:], c)},
		{"a first part of three", joined(a, three[:1], b[1:], c)},
		{"a second part of three", joined(a, b[:1], three[1:2], b[2:], c)},
		{"a last part of three for the third", joined(a, b[:2], three[2:], b[3:], c)},
		{"a last part of three", joined(a, b[:2], three[2:], c)},
		{"four parts, the first three of three", joined(a, three[:2], b[2:], c)},
		{"a first part of four, the last two of two", joined(a, b[:1], two[1:], c)},
		{"a first part of two ahead of four", joined(a, two[:1], b, c)},
		{"a sector of 63 bytes between", joined(a, b[:2], [][]byte{b[2][:63]}, b[3:], c)},
		{"a sector of 65 bytes between", joined(a, b[:2], [][]byte{append(bytes.Clone(b[2]), 0)}, b[3:], c)},
		{"nil between", joined(a, b[:2], [][]byte{nil}, b[2:], c)},
		{"zeros between", joined(a, b[:2], [][]byte{make([]byte, 64)}, b[2:], c)},
		{"nil ahead", joined(a, [][]byte{nil}, b, c)},
		{"zeros ahead", joined(a, [][]byte{make([]byte, 64)}, b, c)},
		{"the record is missing", joined(a, c)},
		{"nothing behind", a},
	}
	for _, x := range cases {
		wantScan(t, x.what, x.l, 1, data[:1], 1)
	}
	wantScan(t, "all of them", l, 1, data, 7)
	wantScan(t, "three parts", joined(a, three, c), 1, [][]byte{data[0], rising(141, 3), data[2]}, 6)
	wantScan(t, "all but the last sector", l[:6], 1, data[:2], 5)
	wantScan(t, "nil behind", joined(a, b, [][]byte{nil}, c), 1, data[:2], 5)
}

// Parts of two records that fit by all that the document names make one.
func TestScanJoinsWhatFits(t *testing.T) {
	l, other := pack(t, 1, 0, rising(94, 3)), pack(t, 1, 0, rising(50, 9))
	wantScan(t, "two halves", joined(l[:1], other[1:]), 1, [][]byte{append(rising(47, 3), rising(50, 9)[47:]...)}, 2)
}

// someSector: of a record of some generation and number, or of none.
func someSector(t *testing.T, dice *rand.Rand) []byte {
	t.Helper()
	l := pack(t, 1+dice.Intn(2), dice.Intn(4), rising(dice.Intn(189), byte(dice.Intn(256))))
	b := l[dice.Intn(len(l))]
	switch dice.Intn(8) {
	case 0:
		b[dice.Intn(64)] ^= byte(1 << dice.Intn(8))
	case 1:
		b = summed(append(b[:8], byte(dice.Intn(5)), byte(dice.Intn(6)), byte(dice.Intn(50))))
	case 2:
		b = b[:dice.Intn(65)]
	}
	return b
}

// someRecords of any lengths.
func someRecords(dice *rand.Rand, most int) [][]byte {
	records := make([][]byte, dice.Intn(most+1))
	for n := range records {
		records[n] = rising(dice.Intn(189), byte(dice.Intn(256)))
	}
	return records
}

// disturbed: some sectors are dropped, doubled, exchanged or others.
func disturbed(t *testing.T, dice *rand.Rand, l [][]byte) [][]byte {
	t.Helper()
	for range dice.Intn(3) {
		if len(l) == 0 {
			break
		}
		i, j := dice.Intn(len(l)), dice.Intn(len(l))
		switch dice.Intn(4) {
		case 0:
			l = slices.Delete(l, i, i+1)
		case 1:
			l = slices.Insert(l, j, l[i])
		case 2:
			l[i], l[j] = l[j], l[i]
		case 3:
			l[i] = someSector(t, dice)
		}
	}
	return l
}

func TestScanOfAnySectors(t *testing.T) {
	dice := rand.New(rand.NewSource(102))
	for range 3000 {
		l := disturbed(t, dice, packAll(t, 1, someRecords(dice, 5)))
		for range dice.Intn(4) {
			l = append(l, someSector(t, dice))
		}
		for gen := range 4 {
			checkScan(t, l, gen)
		}
		for _, b := range l {
			checkLook(t, b)
		}
	}
}

// P10.3.

func TestThereAndBack(t *testing.T) {
	dice := rand.New(rand.NewSource(103))
	for range 2000 {
		gen, seq := 1+dice.Intn(api.MaxGen), dice.Intn(api.MaxGen+1)
		data := make([]byte, dice.Intn(189))
		dice.Read(data)
		var back []byte
		l := pack(t, gen, seq, data)
		for i, b := range l {
			p, e := sectors.Look(b)
			want := api.Part{Gen: gen, Seq: seq, Index: i, Parts: len(l), Data: p.Data}
			if e != api.OK || !alikeParts(p, want) {
				t.Fatalf("part %d of %x = %v, %d", i, data, p, e)
			}
			back = append(back, p.Data...)
		}
		if !bytes.Equal(back, data) {
			t.Fatalf("%x came back as %x", data, back)
		}
	}
}

// Records come back, whatever stands behind them that is no next one.
func TestRecordsComeBack(t *testing.T) {
	dice := rand.New(rand.NewSource(104))
	for range 1000 {
		gen := 1 + dice.Intn(api.MaxGen-1)
		data := someRecords(dice, 6)
		l := packAll(t, gen, data)
		size, next := len(l), len(data)
		more := pack(t, gen, next, rising(60, 3))
		behind := [][][]byte{
			{nil}, {make([]byte, 64)}, more[:1], more[1:],
			{more[1], more[0]},
			pack(t, gen, next+1, rising(60, 3)),
			pack(t, gen+1, next, rising(60, 3)),
			{pack(t, gen, next, rising(188, 3))[0], more[1]},
			{more[0], more[1][:63]},
		}
		if next > 0 {
			behind = append(behind, l)
		}
		wantScan(t, "nothing behind", l, gen, data, size)
		for _, x := range behind {
			wantScan(t, "no next record behind", joined(l, x), gen, data, size)
			wantScan(t, "no next record ahead of one", joined(l, x, more), gen, data, size)
		}
	}
}

// P10.4.

// area of so many sectors, with what elder generations and elder records of this
// one have left; but no last part of a record with this generation and number.
func area(t *testing.T, dice *rand.Rand, size, gen, seq int) [][]byte {
	t.Helper()
	l := make([][]byte, 0, size)
	for len(l) < size {
		b := someSector(t, dice)
		if len(b) != 64 {
			b = make([]byte, 64)
		}
		if p, e := looked(b); e == api.OK && p.Gen == gen && p.Seq == seq && p.Index == p.Parts-1 {
			continue
		}
		l = append(l, b)
	}
	return l
}

// Behind each write but the last of a record's sectors, the records are told as
// before; behind the last one, it is too.
func TestNeverBetween(t *testing.T) {
	dice := rand.New(rand.NewSource(105))
	for range 2000 {
		gen := 1 + dice.Intn(2)
		data := someRecords(dice, 3)
		l := packAll(t, gen, data)
		at := len(l)
		l = append(l, area(t, dice, 4+dice.Intn(4), gen, len(data))...)
		wantScan(t, "before", l, gen, data, at)
		next := rising(dice.Intn(189), byte(dice.Intn(256)))
		parts := pack(t, gen, len(data), next)
		for i, b := range parts {
			wantScan(t, "between", l, gen, data, at)
			l[at+i] = b
		}
		got, n := checkScan(t, l, gen)
		if len(got) <= len(data) || n < at+len(parts) || !alike(got[:len(data)+1], append(data, next)) {
			t.Fatalf("behind the last write: %x, %d", got, n)
		}
	}
}

// So with a record of each number of parts over one of each that an elder
// generation has left, and over what was begun and not ended.
func TestNeverBetweenOverWhatWasLeft(t *testing.T) {
	first := pack(t, 2, 0, []byte("ab"))
	for _, size := range sizes[:15] {
		parts := pack(t, 2, 1, rising(size, 7))
		for _, old := range sizes[:15] {
			left := [][][]byte{pack(t, 1, 1, rising(old, 9)), pack(t, 2, 2, rising(old, 9)), pack(t, 3, 1, rising(old, 9))}
			begun := pack(t, 2, 1, rising(old, 9))
			for cut := range len(begun) {
				left = append(left, begun[:cut])
			}
			for _, x := range left {
				l := append(joined(first, x), make([][]byte, 5)...)
				for i, b := range parts {
					wantScan(t, "between", l, 2, [][]byte{[]byte("ab")}, 1)
					l[1+i] = b
				}
				got, n := checkScan(t, l, 2)
				if len(got) < 2 || n < 1+len(parts) || !bytes.Equal(got[1], rising(size, 7)) {
					t.Fatalf("%d bytes over %d: %x, %d", size, old, got, n)
				}
			}
		}
	}
}

// P10.5.

// A sector of each kind of part, with each byte turned to each other.
func TestTurnedByteIsNoParts(t *testing.T) {
	for _, size := range []int{0, 1, 20, 46, 47, 188} {
		for _, b := range [][]byte{pack(t, 1, 0, rising(size, 5))[0], pack(t, api.MaxGen, api.MaxGen, make([]byte, size))[0]} {
			for at := range b {
				for c := 1; c < 256; c++ {
					b[at] ^= byte(c)
					if p, e := sectors.Look(b); e != api.ErrRecord || !alikeParts(p, api.Part{}) {
						t.Fatalf("%d bytes, the byte %d turned by %d: %v, %d", size, at, c, p, e)
					}
					b[at] ^= byte(c)
				}
			}
		}
	}
}

func TestTurnedByteOfAnyPartIsNoParts(t *testing.T) {
	dice := rand.New(rand.NewSource(106))
	for range 3000 {
		data := make([]byte, dice.Intn(189))
		dice.Read(data)
		l := pack(t, 1+dice.Intn(api.MaxGen), dice.Intn(api.MaxGen+1), data)
		b := l[dice.Intn(len(l))]
		for at := range b {
			by := byte(1 + dice.Intn(255))
			b[at] ^= by
			if p, e := sectors.Look(b); e != api.ErrRecord {
				t.Fatalf("the byte %d turned by %d: %v", at, by, p)
			}
			b[at] ^= by
		}
	}
}

// A record with a turned byte stands no more, wherever that is.
func TestTurnedRecordStandsNoMore(t *testing.T) {
	data := [][]byte{[]byte("ab"), rising(188, 3), []byte("c")}
	l := packAll(t, 1, data)
	ends := []int{0, 1, 1, 1, 1, 5}
	for i, end := range ends {
		records := data[:min(end, 1)]
		if end == 5 {
			records = data[:2]
		}
		for at := range l[i] {
			l[i][at] ^= 64
			wantScan(t, "a turned byte", l, 1, records, end)
			l[i][at] ^= 64
		}
	}
}

// R5.

// withRoom: these bytes, with spare room behind their end, filled with a mark.
func withRoom(b []byte, mark byte) []byte {
	room := bytes.Repeat([]byte{mark}, len(b)+200)
	copy(room, b)
	return room[:len(b)]
}

// fill: all of a list, its spare room too.
func fill(b []byte, c byte) {
	b = b[:cap(b)]
	for i := range b {
		b[i] = c
	}
}

// filled: is all of a list this byte, its spare room too?
func filled(b []byte, c byte) bool {
	return bytes.Equal(b[:cap(b)], bytes.Repeat([]byte{c}, cap(b)))
}

// Bytes that are handed to Pack stay as they are, and are not kept.
func TestBytesHandedToPack(t *testing.T) {
	for _, gen := range []int{0, 1} {
		for _, size := range sizes {
			b := withRoom(rising(size, 5), 77)
			before := bytes.Clone(b[:cap(b)])
			want, _ := packed(gen, 3, rising(size, 5))
			l, _ := sectors.Pack(gen, 3, b)
			if !bytes.Equal(b[:cap(b)], before) {
				t.Errorf("%d bytes: they have become %x", size, b[:cap(b)])
			}
			fill(b, 99)
			if !alike(l, want) {
				t.Errorf("%d bytes: the sectors have become %x", size, l)
			}
		}
	}
}

// So with those that are handed to Look.
func TestBytesHandedToLook(t *testing.T) {
	for _, size := range sizes[:15] {
		for _, whole := range pack(t, 1, 0, rising(size, 5)) {
			for _, length := range []int{64, 63, 65} {
				b := withRoom(append(bytes.Clone(whole), 0)[:length], 77)
				before := bytes.Clone(b[:cap(b)])
				want, _ := looked(b)
				p, _ := sectors.Look(b)
				if !bytes.Equal(b[:cap(b)], before) {
					t.Errorf("a part of %d bytes: its sector has become %x", size, b[:cap(b)])
				}
				fill(b, 99)
				if !alikeParts(p, want) {
					t.Errorf("a part of %d bytes has become %x", size, p.Data)
				}
			}
		}
	}
}

// So with the sectors that are handed to Scan, and with the list of them.
func TestSectorsHandedToScan(t *testing.T) {
	data := [][]byte{[]byte("ab"), rising(188, 3), nil, rising(47, 4), rising(60, 5)}
	all := packAll(t, 1, data)
	for size := range len(all) + 1 {
		room := copied(all)
		for i, b := range room {
			room[i] = withRoom(b, 77)
		}
		l := room[:size]
		firsts, before := []*byte{}, [][]byte{}
		for _, b := range room {
			firsts = append(firsts, &b[0])
			before = append(before, bytes.Clone(b[:cap(b)]))
		}
		want, n := scanned(l, 1)
		got, taken := sectors.Scan(l, 1)
		for i, b := range room {
			if &b[0] != firsts[i] || len(b) != 64 || !bytes.Equal(b[:cap(b)], before[i]) {
				t.Errorf("%d sectors: sector %d has become %x", size, i, b[:cap(b)])
			}
			fill(b, 99)
			room[i] = nil
		}
		if taken != n || !alike(got, want) {
			t.Errorf("%d sectors: the records have become %x", size, got)
		}
	}
}

// R6.

// What is done to the sectors of a Pack, their spare room too, reaches neither
// its others nor those of another Pack.
func TestSectorsOfPackAreNobodyElses(t *testing.T) {
	for _, size := range sizes[:15] {
		b := rising(size, 5)
		l, other := pack(t, 1, 0, b), pack(t, 1, 0, b)
		for i := range l {
			fill(l[i], byte(100+i))
		}
		for i := range l {
			if !filled(l[i], byte(100+i)) {
				t.Errorf("%d bytes: sector %d has become %x", size, i, l[i][:cap(l[i])])
			}
		}
		l = l[:cap(l)]
		for i := range l {
			l[i] = nil
		}
		if want, _ := packed(1, 0, rising(size, 5)); !alike(other, want) || !bytes.Equal(b, rising(size, 5)) {
			t.Errorf("%d bytes: another Pack's sectors have become %x", size, other)
		}
	}
}

// So with the bytes of a part.
func TestBytesOfLookAreNobodyElses(t *testing.T) {
	for _, size := range sizes[:15] {
		for i, b := range pack(t, 1, 0, rising(size, 5)) {
			before := bytes.Clone(b)
			p, _ := sectors.Look(b)
			q, _ := sectors.Look(b)
			want := bytes.Clone(q.Data)
			fill(p.Data, 99)
			if !bytes.Equal(b, before) || !bytes.Equal(q.Data, want) || !filled(p.Data, 99) {
				t.Errorf("part %d of %d bytes: its sector has become %x, another answer %x", i, size, b, q.Data)
			}
		}
	}
}

// So with the records of a Scan.
func TestRecordsOfScanAreNobodyElses(t *testing.T) {
	data := [][]byte{[]byte("ab"), rising(188, 3), nil, rising(47, 4), rising(60, 5), rising(141, 6)}
	l := packAll(t, 1, data)
	before := copied(l)
	got, _ := sectors.Scan(l, 1)
	other, _ := sectors.Scan(l, 1)
	for i := range got {
		fill(got[i], byte(100+i))
	}
	for i := range got {
		if !filled(got[i], byte(100+i)) {
			t.Errorf("record %d has become %x", i, got[i][:cap(got[i])])
		}
	}
	got = got[:cap(got)]
	for i := range got {
		got[i] = []byte("none")
	}
	if !alike(l, before) || !alike(other, data) {
		t.Errorf("the sectors have become %x, another answer %x", l, other)
	}
}

// One list that stands for several sectors is read as several.
func TestOneListForSeveralSectors(t *testing.T) {
	b := pack(t, 1, 0, []byte("ab"))[0]
	wantScan(t, "one list", [][]byte{b, b, b}, 1, [][]byte{[]byte("ab")}, 1)
}

// R7.

// What is asked is told the same each time, whatever was asked between.
func TestAskedTwiceIsToldTwice(t *testing.T) {
	dice := rand.New(rand.NewSource(107))
	data := [][]byte{rising(100, 3), []byte("ab"), rising(188, 7)}
	l := packAll(t, 1, data)
	for range 300 {
		checkScan(t, disturbed(t, dice, copied(l)), 1+dice.Intn(2))
		checkLook(t, someSector(t, dice))
		checkPack(t, edges[dice.Intn(len(edges))], edges[dice.Intn(len(edges))], rising(sizes[dice.Intn(len(sizes))], 1))
		wantScan(t, "again", l, 1, data, 8)
		if !alike(l, packAll(t, 1, data)) {
			t.Fatalf("Pack tells others than before")
		}
	}
}
