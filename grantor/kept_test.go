package grantor

import (
	"math/rand"
	"testing"

	"sublet/api"
	"sublet/disk"
	"sublet/ledger"
)

// Of a grant that ended nothing would show, if it stayed, but it would be kept for
// nothing.
func TestOfWhatEndedNothingIsKept(t *testing.T) {
	dice := rand.New(rand.NewSource(172))
	d, _ := disk.New(ledger.Need)
	l, _ := ledger.Open(d)
	g, e := Open(l, 0)
	if e != api.OK {
		t.Fatalf("Open: %d", e)
	}
	ended := 0
	for now := range 2000 {
		x, e := g.Grant(now, Root(), dice.Intn(3), "a", api.Shared, 4+dice.Intn(6))
		switch id := x.Id; {
		case e != api.OK:
		case dice.Intn(4) == 0:
			g.End(id, x.Holder)
		case dice.Intn(3) == 0:
			g.Mark(id, 1, 5)
			g.Done(id, x.Holder, 1, 5)
		default:
			g.Renew(now, Root(), id, x.Holder, 9, dice.Intn(2) == 0)
		}
		all := g.List()
		ended = x.Id - len(all)
		if len(g.runs) != len(all) {
			t.Fatalf("there are %d grants, and %d are kept", len(all), len(g.runs))
		}
		for _, h := range all {
			if _, there := g.runs[h.Grant.Id]; !there {
				t.Fatalf("of %v nothing is kept", h)
			}
		}
	}
	if ended < 1000 {
		t.Errorf("%d grants ended", ended)
	}
}
