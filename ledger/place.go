package ledger

import (
	"sublet/api"
	"sublet/book"
	"sublet/disk"
	"sublet/sectors"
)

// Where the head is, and where area 0 begins: area 1 is behind it.
const (
	headAt  = 0
	areasAt = 1
)

// place of records: those of one generation, from the first sector of one area on.
type place struct {
	gen, area     int
	records, used int // how many they are, and how many sectors they take
}

// begin: the place that a disk's head names, ahead of any record. If it names
// none, one that does is written.
func begin(d *disk.Disk) (place, api.Errno) {
	b, e := d.Read(headAt)
	if e != api.OK {
		return place{}, e
	}
	if at, ok := named(b); ok {
		return at, api.OK
	}
	first := place{gen: 1}
	if e := d.Write(headAt, head(first)); e != api.OK {
		return place{}, e
	}
	return first, api.OK
}

// named: the place that a head names, if it names one.
func named(b []byte) (place, bool) {
	p, e := sectors.Look(b)
	if e != api.OK || p.Seq != 0 || p.Index != 0 || p.Parts != 1 || len(p.Data) != 1 || p.Data[0] > 1 {
		return place{}, false
	}
	return place{gen: p.Gen, area: int(p.Data[0])}, true
}

// head that names a place.
func head(at place) []byte {
	l, _ := sectors.Pack(at.gen, 0, []byte{byte(at.area)})
	return l[0]
}

// readArea: the sectors of an area.
func readArea(read func(int) ([]byte, api.Errno), area int) ([][]byte, api.Errno) {
	all := make([][]byte, api.AreaSectors)
	for i := range all {
		b, e := read(firstOf(area) + i)
		if e != api.OK {
			return nil, e
		}
		all[i] = b
	}
	return all, api.OK
}

// firstOf: the first sector of an area.
func firstOf(area int) int { return areasAt + area*api.AreaSectors }

// other area than the one that it is in.
func (at place) other() int { return 1 - at.area }

// end: the sector behind its records.
func (at place) end() int { return firstOf(at.area) + at.used }

// parts: the sectors of a record that stands behind its records.
func (at place) parts(r api.Rec) [][]byte {
	data, _ := book.Encode(r)
	l, _ := sectors.Pack(at.gen, at.records, data)
	return l
}

// hasRoom: is there room for a record behind its records?
func (at place) hasRoom(r api.Rec) bool {
	return at.used+len(at.parts(r)) <= api.AreaSectors
}

// with one record more, of so many sectors.
func (at place) with(size int) place {
	at.records++
	at.used += size
	return at
}
