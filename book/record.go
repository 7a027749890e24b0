package book

import (
	"bytes"

	"sublet/api"
	"sublet/octets"
)

// most bytes of a record, as layer 10 has them.
const most = api.MaxParts * api.PartBytes

// Encode: a record's bytes.
func Encode(r api.Rec) ([]byte, api.Errno) {
	if !mayRecord(r) {
		return nil, api.ErrRecord
	}
	return laid(r), api.OK
}

// Decode: the record of bytes.
func Decode(b []byte) (api.Rec, api.Errno) {
	// No record has so many bytes, and to look at them all would take long.
	if len(b) > most {
		return api.Rec{}, api.ErrRecord
	}
	// Whatever is wrong with the bytes, they aren't those of what was taken up.
	r := taken(b)
	own, e := Encode(r)
	if e != api.OK || !bytes.Equal(own, b) {
		return api.Rec{}, api.ErrRecord
	}
	return r, api.OK
}

// laid: the bytes of a record, whose fields are as they may be.
func laid(r api.Rec) []byte {
	var w writer
	w.Num(int(r.Kind))
	switch r.Kind {
	case api.RecCounter:
		w.nums(r.Next, r.Boots)
	case api.RecLongest:
		w.Num(r.Longest)
	case api.RecKept, api.RecGrant:
		w.grant(r.Grant)
	case api.RecFresh:
		w.Num(r.Id)
		w.stamp(r.Stamp)
	case api.RecEnd:
		w.Num(r.Id)
	}
	return w.Bytes()
}

// taken: what record bytes would be, if they are a record's at all.
func taken(b []byte) api.Rec {
	from := reader{octets.NewReader(b)}
	r := api.Rec{Kind: api.RecKind(from.Num())}
	switch r.Kind {
	case api.RecCounter:
		r.Next, r.Boots = from.Num(), from.Num()
	case api.RecLongest:
		r.Longest = from.Num()
	case api.RecKept, api.RecGrant:
		r.Grant = from.grant()
	case api.RecFresh:
		r.Id, r.Stamp = from.Num(), from.stamp()
	case api.RecEnd:
		r.Id = from.Num()
	}
	return r
}

// writer lays a record's fields down.
type writer struct{ octets.Writer }

func (w *writer) grant(g api.Grant) {
	w.nums(g.Id, g.Holder)
	w.Text(g.Path)
	w.nums(int(g.Mode), g.Term)
	w.stamp(g.Stamp)
}

// stamp: how many counters it has, and these.
func (w *writer) stamp(s []int) {
	w.Num(len(s))
	w.nums(s...)
}

// nums: numbers, one behind the other.
func (w *writer) nums(ns ...int) {
	for _, n := range ns {
		w.Num(n)
	}
}

// reader takes them up in the same order.
type reader struct{ *octets.Reader }

func (r reader) grant() api.Grant {
	g := api.Grant{Id: r.Num(), Holder: r.Num(), Path: r.Text(most)}
	g.Mode, g.Term, g.Stamp = api.Mode(r.Num()), r.Num(), r.stamp()
	return g
}

// stamp: as many counters as the bytes say, but never more than a stamp may
// have: bytes can say any number.
func (r reader) stamp() []int {
	var s []int
	for range min(r.Num(), api.MaxDepth) {
		s = append(s, r.Num())
	}
	return s
}
