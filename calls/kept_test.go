package calls

import (
	"math/rand"
	"slices"
	"testing"

	"sublet/api"
	"sublet/wire"
)

// at: calls whose next number is this one. No test lives to give out so many.
func at(t *testing.T, next int) *Calls {
	t.Helper()
	c, e := New(1)
	if e != api.OK {
		t.Fatalf("New = %d", e)
	}
	c.next = next
	return c
}

var released = api.Call{To: 1, Verb: api.Release, Id: 1}

// The last number is MaxCount, with others open and without.
func TestNumbersEndAtMaxCount(t *testing.T) {
	for left := range 4 {
		c := at(t, api.MaxCount-left)
		for seq := api.MaxCount - left; seq <= api.MaxCount; seq++ {
			if n, e := c.Open(5, released); n != seq || e != api.OK {
				t.Fatalf("Open = %d, %d, not %d", n, e, seq)
			}
			if m, ok := c.Ask(0, seq); !ok || m.Seq != seq || m.Low != api.MaxCount-left || !wire.Valid(m) {
				t.Fatalf("Ask = %v, %t", m, ok)
			}
		}
		for len(c.List()) > 0 {
			before := c.List()
			for range 2 {
				if n, e := c.Open(5, released); n != 0 || e != api.ErrCounts {
					t.Fatalf("Open with %d open = %d, %d", len(before), n, e)
				}
			}
			if !slices.Equal(c.List(), before) || c.Low() != before[0].Seq {
				t.Fatalf("what was refused has changed %v to %v", before, c.List())
			}
			c.Close(c.Low())
		}
		if n, e := c.Open(5, released); n != 0 || e != api.ErrCounts || c.Low() != api.MaxCount+1 {
			t.Errorf("Open with none open = %d, %d, Low %d", n, e, c.Low())
		}
	}
}

// A number above MaxCount is named ahead of calls that are too many, and behind
// all else that may be wrong.
func TestErrCountsIsNamedInItsPlace(t *testing.T) {
	for _, count := range []int{0, 1, 4} {
		c := at(t, api.MaxCount+1-count)
		for range count {
			c.Open(0, released)
		}
		for _, d := range []struct {
			now  int
			x    api.Call
			want api.Errno
		}{{-1, api.Call{}, api.ErrRange}, {-1, released, api.ErrRange}, {0, api.Call{}, api.ErrKind}, {0, released, api.ErrCounts}} {
			if n, e := c.Open(d.now, d.x); n != 0 || e != d.want || len(c.List()) != count {
				t.Errorf("Open(%d, %v) = %d, %d, not %d", d.now, d.x, n, e, d.want)
			}
		}
	}
	// With the window over too.
	c := at(t, api.MaxCount-7)
	c.Open(0, released)
	for seq := api.MaxCount - 6; seq <= api.MaxCount; seq++ {
		c.Open(0, released)
		c.Close(seq)
	}
	if n, e := c.Open(0, released); n != 0 || e != api.ErrCounts {
		t.Errorf("Open = %d, %d", n, e)
	}
}

// What has been closed would show in no answer, if it stayed, but it would be
// kept for nothing.
func TestWhatIsClosedIsNotKept(t *testing.T) {
	dice := rand.New(rand.NewSource(148))
	c := at(t, 1)
	for range 5000 {
		c.Open(dice.Intn(9), released)
		c.Close(c.next - dice.Intn(9))
		c.Again(c.next - dice.Intn(9))
		if len(c.open) > api.MaxOpen || len(c.open) != len(c.List()) {
			t.Fatalf("%v is kept of %v", c.open, c.List())
		}
	}
}
