package ledger_test

import (
	"bytes"
	"encoding/binary"
	"hash/crc32"
	"math/rand"
	"reflect"
	"slices"
	"testing"

	"sublet/api"
	"sublet/book"
	"sublet/disk"
	"sublet/ledger"
	"sublet/sectors"
)

// The document's numbers, by hand.
const (
	need      = 49
	areaSize  = 24
	mostGen   = 1073741824
	mostCount = 1099511627776
	mostTerm  = 1048576
)

// longPath is the path with the most bytes.
const longPath = "abcdef/ghijkl/mnopqr/stuvwx"

// raw: the sector of a part of any fields.
func raw(gen, seq, index, parts int, data []byte) []byte {
	b := binary.LittleEndian.AppendUint32(nil, uint32(gen))
	b = binary.LittleEndian.AppendUint32(b, uint32(seq))
	b = append(b, byte(index), byte(parts), byte(len(data)))
	b = append(b, data...)
	b = append(b, make([]byte, 60-len(b))...)
	return binary.LittleEndian.AppendUint32(b, crc32.ChecksumIEEE(b))
}

// cut: the sectors of a record's bytes.
func cut(gen, seq int, data []byte) [][]byte {
	chunks := slices.Collect(slices.Chunk(data, 47))
	if len(data) == 0 {
		chunks = [][]byte{nil}
	}
	var l [][]byte
	for i, c := range chunks {
		l = append(l, raw(gen, seq, i, len(chunks), c))
	}
	return l
}

// headOf: a head that names a generation and an area.
func headOf(gen, area int) []byte { return raw(gen, 0, 0, 1, []byte{byte(area)}) }

// firstOf: the first sector of an area.
func firstOf(area int) int { return []int{1, 25}[area] }

// bytesOf: a record's bytes.
func bytesOf(r api.Rec) []byte {
	b, e := book.Encode(r)
	if e != api.OK {
		panic("no record")
	}
	return b
}

// blank: so many sectors of zeros.
func blank(n int) [][]byte {
	image := make([][]byte, n)
	for i := range image {
		image[i] = make([]byte, 64)
	}
	return image
}

// marked: so many sectors, no two alike, none of which is a part's.
func marked(n int) [][]byte {
	image := blank(n)
	for i, b := range image {
		b[0], b[1], b[63] = byte(i), byte(i>>8), 77
	}
	return image
}

// laid: an image with these sectors in it, from one on.
func laid(image [][]byte, at int, l ...[]byte) [][]byte {
	image = copied(image)
	copy(image[at:], copied(l))
	return image
}

// holding: an image whose head names a generation and an area, in which these
// records stand.
func holding(gen, area int, records ...api.Rec) [][]byte {
	return laid(laid(blank(need), 0, headOf(gen, area)), firstOf(area), packed(gen, records...)...)
}

// packed: the sectors of records with the numbers 0, 1, 2, ..
func packed(gen int, records ...api.Rec) [][]byte {
	var l [][]byte
	for n, r := range records {
		l = append(l, cut(gen, n, bytesOf(r))...)
	}
	return l
}

// copied: these lists, in lists of their own.
func copied(l [][]byte) [][]byte {
	other := make([][]byte, len(l))
	for i, b := range l {
		other[i] = bytes.Clone(b)
	}
	return other
}

// model: what a disk and the ledger on it have to keep.
type model struct {
	image     [][]byte
	writes    int
	off       bool
	left      int // how many writes more the disk takes; below 0: as many as there are
	gen, area int
	records   []api.Rec
	dead      bool
}

// write a sector; false, if the power fails.
func (m *model) write(i int, b []byte) bool {
	if m.off || m.left == 0 {
		if !m.off {
			m.left = -1
		}
		m.off = true
		return false
	}
	m.image[i] = bytes.Clone(b)
	m.writes++
	m.left = max(m.left-1, -1)
	return true
}

// area: the sectors of one.
func (m *model) areaOf(n int) [][]byte { return m.image[firstOf(n):][:areaSize] }

// open answers what Open has to.
func (m *model) open() api.Errno {
	if len(m.image) < need {
		return api.ErrSpace
	}
	if m.off {
		return api.ErrPower
	}
	p, e := sectors.Look(m.image[0])
	gen, area := p.Gen, 2
	if e == api.OK && p.Seq == 0 && p.Index == 0 && p.Parts == 1 && len(p.Data) == 1 {
		area = int(p.Data[0])
	}
	if area > 1 {
		gen, area = 1, 0
		if !m.write(0, headOf(1, 0)) {
			return api.ErrPower
		}
	}
	m.gen, m.area, m.records, m.dead = gen, area, nil, false
	for _, data := range standing(m.areaOf(area), gen) {
		r, e := book.Decode(data)
		if e != api.OK {
			break
		}
		if _, e := book.Apply(m.book(), r); e != api.OK {
			break
		}
		m.records = append(m.records, r)
	}
	return api.OK
}

// standing: the bytes of the records of a generation, from the first sector on.
func standing(l [][]byte, gen int) [][]byte {
	var all [][]byte
	for at := 0; at < len(l); {
		first, _ := sectors.Look(l[at])
		parts := max(1, first.Parts)
		if at+parts > len(l) {
			break
		}
		var data []byte
		for i, b := range l[at : at+parts] {
			p, e := sectors.Look(b)
			if e != api.OK || [4]int{p.Gen, p.Seq, p.Index, p.Parts} != [4]int{gen, len(all), i, parts} {
				return all
			}
			data = append(data, p.Data...)
		}
		all = append(all, data)
		at += parts
	}
	return all
}

// book: what the records make of the empty book.
func (m *model) book() api.Book { return made(m.records...) }

// made: what records make of the empty book.
func made(records ...api.Rec) api.Book {
	b := api.Book{Next: 1}
	for _, r := range records {
		then, e := book.Apply(b, r)
		if e != api.OK {
			panic("a record that doesn't fit")
		}
		b = then
	}
	return b
}

// used: how many sectors the records take.
func (m *model) used() int { return len(packed(1, m.records...)) }

// append answers what Append has to.
func (m *model) append(r api.Rec) api.Errno {
	if m.dead {
		return api.ErrPower
	}
	if _, e := book.Apply(m.book(), r); e != api.OK {
		return e
	}
	if m.used()+len(packed(1, r)) > areaSize {
		if e := m.compact(); e != api.OK {
			return e
		}
	}
	at := firstOf(m.area) + m.used()
	for i, b := range cut(m.gen, len(m.records), bytesOf(r)) {
		if !m.write(at+i, b) {
			m.dead = true
			return api.ErrPower
		}
	}
	m.records = append(slices.Clip(m.records), r)
	return api.OK
}

// compact answers what Compact has to.
func (m *model) compact() api.Errno {
	if m.dead || m.off {
		m.dead = true
		return api.ErrPower
	}
	gens := []int{m.gen}
	for _, b := range m.areaOf(1 - m.area) {
		if p, e := sectors.Look(b); e == api.OK {
			gens = append(gens, p.Gen)
		}
	}
	next, to := slices.Max(gens)+1, 1-m.area
	if next > mostGen {
		return api.ErrWorn
	}
	records := book.Dump(m.book())
	for i, b := range packed(next, records...) {
		if !m.write(firstOf(to)+i, b) {
			m.dead = true
			return api.ErrPower
		}
	}
	if !m.write(0, headOf(next, to)) {
		m.dead = true
		return api.ErrPower
	}
	m.gen, m.area, m.records = next, to, records
	return api.OK
}

// pair: a ledger on a disk, and the model of both.
type pair struct {
	t *testing.T
	d *disk.Disk
	l *ledger.Ledger
	m model
}

// pairOf: a disk of these sectors, on which no ledger is open yet.
func pairOf(t *testing.T, image [][]byte) *pair {
	t.Helper()
	d, e := disk.From(image)
	if e != api.OK {
		t.Fatalf("no disk of %d sectors: %d", len(image), e)
	}
	return &pair{t: t, d: d, m: model{image: copied(image), left: -1}}
}

// ready: a pair of these sectors, on which a ledger is open.
func ready(t *testing.T, image [][]byte) *pair {
	t.Helper()
	p := pairOf(t, image)
	if e := p.open(); e != api.OK {
		t.Fatalf("Open: %d", e)
	}
	return p
}

// check holds all that the disk and the ledger tell against the model.
func (p *pair) check() {
	p.t.Helper()
	if p.d.Writes() != p.m.writes || p.d.Off() != p.m.off {
		p.t.Fatalf("%d writes, Off %v, not %d, %v", p.d.Writes(), p.d.Off(), p.m.writes, p.m.off)
	}
	for i, b := range p.d.Image() {
		if !bytes.Equal(b, p.m.image[i]) {
			p.t.Fatalf("sector %d is %x, not %x", i, b, p.m.image[i])
		}
	}
	if p.l == nil {
		return
	}
	if b, want := p.l.Book(), p.m.book(); !book.Same(b, want) {
		p.t.Fatalf("Book %+v, not %+v", b, want)
	}
	got, want := [3]int{p.l.Records(), p.l.Gen(), p.l.Used()}, [3]int{len(p.m.records), p.m.gen, p.m.used()}
	if got != want {
		p.t.Fatalf("Records, Gen, Used %v, not %v", got, want)
	}
}

// open a ledger, or none if that fails, as if there had been none before.
func (p *pair) open() api.Errno {
	p.t.Helper()
	want := p.m.open()
	l, e := ledger.Open(p.d)
	if e != want || (l == nil) != (e != api.OK) {
		p.t.Fatalf("Open = %v, %d, not %d", l != nil, e, want)
	}
	p.l = l
	p.check()
	return e
}

func (p *pair) append(r api.Rec) api.Errno {
	p.t.Helper()
	want := p.m.append(r)
	if e := p.l.Append(r); e != want {
		p.t.Fatalf("Append(%+v) = %d, not %d", r, e, want)
	}
	p.check()
	return want
}

func (p *pair) compact() api.Errno {
	p.t.Helper()
	want := p.m.compact()
	if e := p.l.Compact(); e != want {
		p.t.Fatalf("Compact = %d, not %d", e, want)
	}
	p.check()
	return want
}

// must: all of these records are appended.
func (p *pair) must(records ...api.Rec) {
	p.t.Helper()
	for _, r := range records {
		if e := p.append(r); e != api.OK {
			p.t.Fatalf("Append(%+v) = %d", r, e)
		}
	}
}

func (p *pair) arm(k int) {
	p.d.Arm(k)
	p.m.left = max(k, -1)
}

func (p *pair) on() {
	p.d.On()
	p.m.off = false
}

// cutPower: the power is off, by none of the ledger's doing.
func (p *pair) cutPower() {
	p.t.Helper()
	p.d.On()
	p.d.Arm(0)
	if e := p.d.Write(0, make([]byte, 64)); e != api.ErrPower {
		p.t.Fatalf("a write of a disk armed with 0: %d", e)
	}
	p.m.off, p.m.left = true, -1
}

// want holds what the ledger tells against what is known by hand.
func (p *pair) want(what string, gen, records, used int, b api.Book) {
	p.t.Helper()
	if p.l.Gen() != gen || p.l.Records() != records || p.l.Used() != used || !book.Same(p.l.Book(), b) {
		p.t.Fatalf("%s: Gen %d, Records %d, Used %d, Book %+v, not %d, %d, %d, %+v",
			what, p.l.Gen(), p.l.Records(), p.l.Used(), p.l.Book(), gen, records, used, b)
	}
}

// Records.

var boot = api.Rec{Kind: api.RecBoot}

// boots: so many of them.
func boots(n int) []api.Rec { return slices.Repeat([]api.Rec{boot}, n) }

func end(id int) api.Rec { return api.Rec{Kind: api.RecEnd, Id: id} }

func longest(n int) api.Rec { return api.Rec{Kind: api.RecLongest, Longest: n} }

func counter(next, boots int) api.Rec {
	return api.Rec{Kind: api.RecCounter, Next: next, Boots: boots}
}

func fresh(id int, stamp ...int) api.Rec {
	return api.Rec{Kind: api.RecFresh, Id: id, Stamp: stamp}
}

// small: a record of one sector, that gives a grant.
func small(id int) api.Rec {
	return api.Rec{Kind: api.RecGrant, Grant: api.Grant{Id: id, Holder: id % 8, Path: "a", Mode: api.Shared, Stamp: []int{id}, Term: 4}}
}

// wide: a record of two sectors, that gives a grant.
func wide(id int) api.Rec {
	return api.Rec{Kind: api.RecGrant, Grant: api.Grant{
		Id: id, Holder: 7, Path: longPath, Mode: api.Exclusive,
		Stamp: []int{mostCount, mostCount - id%9, mostCount, id}, Term: mostTerm,
	}}
}

// greatest: the records of the book that takes the most bytes, and no more goes
// into it.
func greatest() []api.Rec {
	l := []api.Rec{counter(mostCount-5, mostCount), longest(mostTerm)}
	for id := mostCount - 5; id <= mostCount; id++ {
		l = append(l, wide(id))
	}
	return l
}

// fitting: a record that goes with a book, of any kind that does.
func fitting(dice *rand.Rand, b api.Book) api.Rec {
	var l []api.Rec
	if book.Same(b, book.New()) {
		l = append(l, counter(1+dice.Intn(1<<20), dice.Intn(1<<20)))
	}
	if b.Longest < mostTerm {
		l = append(l, longest(max(4, b.Longest+1+dice.Intn(mostTerm-b.Longest))))
	}
	if b.Boots < mostCount {
		l = append(l, boot)
	}
	if b.Next <= mostCount && len(b.Grants) < 6 {
		l = append(l, wide(b.Next), wide(b.Next), small(b.Next))
	}
	if len(b.Grants) > 0 {
		id := b.Grants[dice.Intn(len(b.Grants))].Id
		l = append(l, end(id), end(id))
		if b.Next <= mostCount {
			l = append(l, fresh(id, b.Next), fresh(id, mostCount, mostCount, 1, b.Next))
		}
	}
	if len(l) == 0 {
		return boot
	}
	return l[dice.Intn(len(l))]
}

// Memory.

// span: where in memory a list lies, its spare room too.
type span struct{ from, to uintptr }

// spans of all lists in a value, as far as they have any room.
func spans(x reflect.Value) []span {
	var all []span
	switch x.Kind() {
	case reflect.Struct:
		for i := range x.NumField() {
			all = append(all, spans(x.Field(i))...)
		}
	case reflect.Slice:
		if x.Cap() > 0 {
			all = append(all, span{x.Pointer(), x.Pointer() + uintptr(x.Cap())*x.Type().Elem().Size()})
		}
		// What stands in the spare room is a list's own, too.
		for i := range x.Cap() {
			all = append(all, spans(x.Slice(0, x.Cap()).Index(i))...)
		}
	}
	return all
}

// wantApart: no two lists of these values, nor within one, share any memory.
func wantApart(t *testing.T, values ...any) {
	t.Helper()
	var all []span
	for _, x := range values {
		all = append(all, spans(reflect.ValueOf(x))...)
	}
	for i, s := range all {
		for _, o := range all[:i] {
			if s.from < o.to && o.from < s.to {
				t.Fatalf("two lists share memory: %+v", values)
			}
		}
	}
}

// spoil: all lists of a book are overwritten, their spare room too.
func spoil(b api.Book) {
	l := b.Grants[:cap(b.Grants)]
	for i, g := range l {
		s := g.Stamp[:cap(g.Stamp)]
		for j := range s {
			s[j] = -77
		}
		l[i] = api.Grant{Id: -77, Holder: -77, Path: "spoilt", Mode: -77, Stamp: []int{-77}, Term: -77}
	}
}
