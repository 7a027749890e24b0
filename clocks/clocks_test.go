package clocks_test

import (
	"math"
	"math/big"
	"math/rand"
	"slices"
	"testing"

	"sublet/api"
	"sublet/clocks"
	"sublet/term"
)

// end: the last time of a clock, as the document has it.
const end = 1 << 60

// edges: numbers of clocks, the least and the greatest among them, and those at
// which numbers of fewer bits would be taken for one another.
var edges = []int{math.MinInt, math.MinInt + 1, -1 << 32, -256, -2, -1, 0, 1, 2, 6, 7, 8, 9, 256, 1 << 32, 1<<32 + 1, end, math.MaxInt - 1, math.MaxInt}

// whole: n, without bound.
func whole(n int) *big.Int { return big.NewInt(int64(n)) }

// wantLeast: the least rho that a clock keeps within, by division without bound:
// as many thousandths of d, made whole upwards, as a and d are apart.
func wantLeast(d, a int) int {
	if d == 0 {
		return 1000 * min(a, 1)
	}
	apart := new(big.Int).Sub(whole(a), whole(d))
	apart.Abs(apart).Mul(apart, whole(1000))
	apart.Add(apart, whole(d-1)).Div(apart, whole(d))
	if apart.Cmp(whole(1000)) > 0 {
		return 1000
	}
	return int(apart.Int64())
}

// model: what clocks have to keep.
type model struct {
	truth, drift int
	times        []int
}

// past: would a time, going on by a, be behind the end?
func past(now, a int) bool {
	return new(big.Int).Add(whole(now), whole(a)).Cmp(whole(end)) > 0
}

// tick answers what Tick has to.
func (m *model) tick(d int, by []int) api.Errno {
	if len(by) != len(m.times) || d < 0 {
		return api.ErrRange
	}
	for _, a := range by {
		if a < 0 {
			return api.ErrRange
		}
	}
	late := past(m.truth, d)
	for i, a := range by {
		late = late || past(m.times[i], a)
	}
	if late {
		return api.ErrTime
	}
	m.truth += d
	for i, a := range by {
		m.times[i] += a
		m.drift = max(m.drift, wantLeast(d, a))
	}
	return api.OK
}

// copied: a model that goes on apart.
func (m model) copied() model {
	m.times = slices.Clone(m.times)
	return m
}

// check holds all that clocks tell against the model.
func check(t *testing.T, c *clocks.Clocks, m model) {
	t.Helper()
	if c.Len() != len(m.times) || c.True() != m.truth || c.Drift() != m.drift {
		t.Fatalf("Len %d, True %d, Drift %d, not %d, %d, %d", c.Len(), c.True(), c.Drift(), len(m.times), m.truth, m.drift)
	}
	for i, want := range m.times {
		if got := c.Now(i); got != want {
			t.Fatalf("Now(%d) = %d, not %d", i, got, want)
		}
	}
	for _, i := range append([]int{len(m.times)}, edges...) {
		if got := c.Now(i); (i < 0 || i >= len(m.times)) && got != 0 {
			t.Fatalf("Now(%d) of %d clocks = %d", i, len(m.times), got)
		}
	}
}

// tick plays clocks and the model, and holds all they tell against each other.
func tick(t *testing.T, c *clocks.Clocks, m *model, d int, by ...int) api.Errno {
	t.Helper()
	want := m.tick(d, by)
	if got := c.Tick(d, by); got != want {
		t.Fatalf("Tick(%d, %v) of %v = %d, not %d", d, by, *m, got, want)
	}
	check(t, c, *m)
	return want
}

// made: so many clocks, and their model.
func made(t *testing.T, n int) (*clocks.Clocks, model) {
	t.Helper()
	c, e := clocks.New(n)
	if c == nil || e != api.OK {
		t.Fatalf("New(%d) = %v, %d", n, c, e)
	}
	m := model{times: make([]int, n)}
	check(t, c, m)
	return c, m
}

// gone: so many clocks that have gone on, no two as far and none as true time.
func gone(t *testing.T, n int) (*clocks.Clocks, model) {
	t.Helper()
	c, m := made(t, n)
	by := make([]int, n)
	for i := range by {
		by[i] = 990 + i
	}
	tick(t, c, &m, 1000, by...)
	return c, m
}

// all: a list of so many numbers, each of them a, but the one at k, which is b.
func all(n, a, k, b int) []int {
	by := make([]int, n)
	for i := range by {
		by[i] = a
	}
	by[k] = b
	return by
}

func TestExampleOfTheDocument(t *testing.T) {
	c, e := clocks.New(2)
	if e != api.OK {
		t.Fatalf("New(2): %d", e)
	}
	want := func(truth, first, second, drift int) {
		t.Helper()
		if c.True() != truth || c.Now(0) != first || c.Now(1) != second || c.Now(2) != 0 || c.Drift() != drift {
			t.Errorf("True %d, Now %d, %d, %d, Drift %d, not %d, %d, %d, 0, %d", c.True(), c.Now(0), c.Now(1), c.Now(2), c.Drift(), truth, first, second, drift)
		}
	}
	want(0, 0, 0, 0)
	if e := c.Tick(100, []int{99, 101}); e != api.OK {
		t.Errorf("Tick(100, 99 101) = %d", e)
	}
	want(100, 99, 101, 10)
	if e := c.Tick(0, []int{0, 1}); e != api.OK {
		t.Errorf("Tick(0, 0 1) = %d", e)
	}
	want(100, 99, 102, 1000)
	if e := c.Tick(1, []int{1}); e != api.ErrRange {
		t.Errorf("Tick(1, 1) = %d", e)
	}
	if e := c.Tick(-1, []int{0, 0}); e != api.ErrRange {
		t.Errorf("Tick(-1, 0 0) = %d", e)
	}
	if e := c.Tick(1<<60, []int{0, 0}); e != api.ErrTime {
		t.Errorf("Tick(2^60, 0 0) = %d", e)
	}
	want(100, 99, 102, 1000)
	for _, n := range []int{0, 9} {
		if c, e := clocks.New(n); c != nil || e != api.ErrRange {
			t.Errorf("New(%d) = %v, %d", n, c, e)
		}
	}
}

// Types.

func TestNilClocks(t *testing.T) {
	var c *clocks.Clocks
	for _, by := range [][]int{nil, {}, {0}, {5}, {-1}, {1, 2}, make([]int, 8), {math.MaxInt}, make([]int, 1000)} {
		for _, d := range edges {
			if e := c.Tick(d, by); e != api.ErrNil {
				t.Errorf("Tick(%d, %v) = %d", d, by, e)
			}
		}
	}
	check(t, c, model{})
	if c != nil {
		t.Error("it has become another")
	}
}

// Clocks that New didn't make are none, with a true time of their own.
func TestZeroClocks(t *testing.T) {
	c, m := &clocks.Clocks{}, model{}
	check(t, c, m)
	tick(t, c, &m, 5)
	tick(t, c, &m, -1)
	tick(t, c, &m, 5, 5)
	tick(t, c, &m, end-5)
	tick(t, c, &m, 1)
}

// P8.1.

func TestNewOfAnyNumber(t *testing.T) {
	for _, n := range append([]int{3, 4, 5, 10, 16, 1<<32 + 8, -1 << 62}, edges...) {
		if n >= 1 && n <= 8 {
			made(t, n)
		} else if c, e := clocks.New(n); c != nil || e != api.ErrRange {
			t.Errorf("New(%d) = %v, %d", n, c, e)
		}
	}
}

func TestNewOfEachNumber(t *testing.T) {
	for n := 1; n <= 8; n++ {
		c, m := gone(t, n)
		if c.Len() != n {
			t.Errorf("Len of %d clocks is %d", n, c.Len())
		}
		for i := range n {
			if got := c.Now(i); got != 990+i {
				t.Errorf("Now(%d) of %d clocks = %d, not %d", i, n, got, 990+i)
			}
		}
		for _, i := range []int{math.MinInt, -1, n, n + 1, 8, 1 << 32, math.MaxInt} {
			if got := c.Now(i); got != 0 {
				t.Errorf("Now(%d) of %d clocks = %d", i, n, got)
			}
		}
		check(t, c, m)
	}
}

// P8.2.

func TestTickGoesOn(t *testing.T) {
	for n := 1; n <= 8; n++ {
		c, m := gone(t, n)
		tick(t, c, &m, 0, make([]int, n)...)
		for k := range n {
			if e := tick(t, c, &m, 0, all(n, 0, k, 5)...); e != api.OK {
				t.Errorf("clock %d of %d alone: %d", k, n, e)
			}
			if e := tick(t, c, &m, 7, all(n, 7, k, 0)...); e != api.OK {
				t.Errorf("all but clock %d of %d: %d", k, n, e)
			}
		}
		if e := tick(t, c, &m, 11, make([]int, n)...); e != api.OK {
			t.Errorf("true time alone, of %d: %d", n, e)
		}
	}
}

// Each goes on by its own number, whatever the others do.
func TestTickOfEachSpan(t *testing.T) {
	c, m := made(t, 8)
	for i := range 60 {
		by := make([]int, 8)
		for k := range by {
			by[k] = 1 << ((i*7 + k*3) % 53)
		}
		if e := tick(t, c, &m, 1<<(i*11%53), by...); e != api.OK {
			t.Errorf("Tick %d = %d", i, e)
		}
	}
}

// It does nothing, at the beginning and at the end.
func TestTickOfNoTime(t *testing.T) {
	for n := 1; n <= 8; n++ {
		c, m := made(t, n)
		for range 3 {
			if e := tick(t, c, &m, 0, make([]int, n)...); e != api.OK {
				t.Errorf("Tick of no time, of %d at 0: %d", n, e)
			}
		}
		tick(t, c, &m, end, all(n, end, 0, end)...)
		for range 3 {
			if e := tick(t, c, &m, 0, make([]int, n)...); e != api.OK {
				t.Errorf("Tick of no time, of %d at the end: %d", n, e)
			}
		}
		if c.Drift() != 0 || c.True() != end || c.Now(n-1) != end {
			t.Errorf("True %d, Now %d, Drift %d", c.True(), c.Now(n-1), c.Drift())
		}
	}
}

// beyond: by so much the end is passed, where so much is left.
func beyond(left int) []int {
	return []int{left + 1, left + 2, left + 1<<32, end + 1, 1 << 61, 1 << 62, 1<<62 + 1, math.MaxInt - end, math.MaxInt - end + 1, math.MaxInt - 1, math.MaxInt}
}

func TestTickReachesTheEndOfTrueTime(t *testing.T) {
	for _, first := range []int{0, 1, 1000, end / 2, end - 1, end} {
		c, m := made(t, 3)
		tick(t, c, &m, first, 5, 6, 7)
		for _, d := range beyond(end - first) {
			if e := tick(t, c, &m, d, 1, 1, 1); e != api.ErrTime {
				t.Errorf("%d behind %d: %d", d, first, e)
			}
		}
		if e := tick(t, c, &m, end-first, 1, 1, 1); e != api.OK || c.True() != end {
			t.Errorf("%d behind %d: %d, True %d", end-first, first, e, c.True())
		}
		for _, d := range beyond(0) {
			if e := tick(t, c, &m, d, 1, 1, 1); e != api.ErrTime {
				t.Errorf("%d behind the end: %d", d, e)
			}
		}
	}
}

func TestTickReachesTheEndOfEachClock(t *testing.T) {
	for n := 1; n <= 8; n++ {
		for k := range n {
			for _, first := range []int{0, 1, 1000, end / 2, end - 1, end} {
				c, m := made(t, n)
				tick(t, c, &m, 3, all(n, 2, k, first)...)
				for _, a := range beyond(end - first) {
					if e := tick(t, c, &m, 1, all(n, 1, k, a)...); e != api.ErrTime {
						t.Errorf("clock %d of %d, %d behind %d: %d", k, n, a, first, e)
					}
				}
				if e := tick(t, c, &m, 1, all(n, 1, k, end-first)...); e != api.OK || c.Now(k) != end {
					t.Errorf("clock %d of %d, %d behind %d: %d, Now %d", k, n, end-first, first, e, c.Now(k))
				}
				for _, a := range beyond(0) {
					if e := tick(t, c, &m, 1, all(n, 1, k, a)...); e != api.ErrTime {
						t.Errorf("clock %d of %d, %d behind the end: %d", k, n, a, e)
					}
				}
			}
		}
	}
}

// A clock that is at the end holds up neither true time nor the others, as long
// as it stands, and true time none of them.
func TestTickWithOneAtTheEnd(t *testing.T) {
	c, m := made(t, 3)
	for _, step := range [][]int{{1, 1, end, 1}, {1, 1, 0, end - 1}, {end - 2, 0, 0, 0}, {0, end - 2, 0, 0}, {0, 0, 0, 0}} {
		if e := tick(t, c, &m, step[0], step[1:]...); e != api.OK {
			t.Errorf("%v: %d", step, e)
		}
	}
	for i := range 4 {
		step := all(4, 0, i, 1)
		if e := tick(t, c, &m, step[0], step[1:]...); e != api.ErrTime {
			t.Errorf("%v: %d", step, e)
		}
	}
}

func TestTickOfTooFewOrTooMany(t *testing.T) {
	for n := 1; n <= 8; n++ {
		c, m := gone(t, n)
		for _, size := range []int{0, 1, 2, n - 1, n, n + 1, 7, 8, 9, 2 * n, 256 + n, 1 << 16} {
			for _, d := range []int{0, 1, end, math.MaxInt} {
				want := api.ErrRange
				if size == n && d < 2 {
					want = api.OK
				} else if size == n {
					want = api.ErrTime
				}
				if e := tick(t, c, &m, d, make([]int, size)...); e != want {
					t.Errorf("%d, and %d numbers for %d clocks: %d, not %d", d, size, n, e, want)
				}
			}
		}
	}
}

// nil and the empty list are one, and spare room behind the end isn't counted.
func TestTickOfNoNumbers(t *testing.T) {
	for n := 1; n <= 8; n++ {
		c, m := gone(t, n)
		for _, by := range [][]int{nil, {}, make([]int, 0, n), make([]int, n-1, n), make([]int, n+1, 2*n+1)} {
			if e := c.Tick(0, by); e != api.ErrRange {
				t.Errorf("%v of %d: %d", by, n, e)
			}
			check(t, c, m)
		}
		if e := c.Tick(0, make([]int, n, 100)); e != api.OK {
			t.Errorf("%d of %d numbers: %d", n, n, e)
		}
		check(t, c, m)
	}
}

// low: numbers below 0.
var low = []int{-1, -2, -1000, -1 << 32, -end, -end - 1, -1 << 62, math.MinInt + 1, math.MinInt}

func TestTickOfNumbersBelowZero(t *testing.T) {
	for n := 1; n <= 8; n++ {
		c, m := gone(t, n)
		for _, a := range low {
			for _, d := range []int{0, 1, 5000} {
				if e := tick(t, c, &m, a, all(n, d, 0, 1)...); e != api.ErrRange {
					t.Errorf("d %d: %d", a, e)
				}
				for k := range n {
					if e := tick(t, c, &m, d, all(n, d, k, a)...); e != api.ErrRange {
						t.Errorf("clock %d of %d, %d while true time goes on by %d: %d", k, n, a, d, e)
					}
				}
			}
		}
	}
}

// Of a number below 0 and one that passes the end, the former is named, in
// whichever place they stand; and so is the number of numbers.
func TestTickNamesTheFirstError(t *testing.T) {
	for n := 1; n <= 8; n++ {
		c, m := gone(t, n)
		late := all(n, math.MaxInt, 0, math.MaxInt)
		for _, a := range low {
			if e := tick(t, c, &m, a, late...); e != api.ErrRange {
				t.Errorf("d %d, and clocks that pass the end: %d", a, e)
			}
			for _, d := range []int{end, math.MaxInt} {
				for k := range n {
					if e := tick(t, c, &m, d, all(n, d, k, a)...); e != api.ErrRange {
						t.Errorf("clock %d of %d, %d, while the others pass the end: %d", k, n, a, e)
					}
				}
			}
			for _, d := range []int{a, 0, math.MaxInt} {
				if e := tick(t, c, &m, d, append(late, a)...); e != api.ErrRange {
					t.Errorf("d %d, a number too many: %d", d, e)
				}
				if e := tick(t, c, &m, d, late[1:]...); e != api.ErrRange {
					t.Errorf("d %d, a number too few: %d", d, e)
				}
			}
		}
	}
}

// A tick that is refused because of one leaves all as it was, those ahead of it too.
func TestRefusedTickChangesNothing(t *testing.T) {
	for n := 1; n <= 8; n++ {
		for k := range n {
			c, m := gone(t, n)
			for _, a := range []int{-1, end, math.MaxInt, math.MinInt} {
				for _, d := range []int{-1, 0, 1, 10, end, math.MaxInt} {
					if e := tick(t, c, &m, d, all(n, 3, k, a)...); e == api.OK {
						t.Errorf("clock %d of %d, %d, while true time goes on by %d: %d", k, n, a, d, e)
					}
				}
			}
			if c.True() != 1000 || c.Now(k) != 990+k || c.Drift() != 10 {
				t.Errorf("True %d, Now(%d) %d, Drift %d", c.True(), k, c.Now(k), c.Drift())
			}
		}
	}
}

// P8.3.

func TestDriftOfOneTick(t *testing.T) {
	for _, x := range []struct{ d, a, want int }{
		{0, 0, 0}, {0, 1, 1000}, {0, end, 1000}, {1, 0, 1000}, {1, 1, 0}, {1, 2, 1000}, {2, 1, 500}, {2, 3, 500},
		{100, 99, 10}, {100, 100, 0}, {100, 101, 10}, {3, 4, 334}, {3, 2, 334}, {7, 0, 1000}, {7, 13, 858},
		{1000, 999, 1}, {1000, 1, 999}, {1000, 0, 1000}, {1000, 1999, 999}, {1000, 2000, 1000}, {1000, 2001, 1000}, {1000, 100000, 1000},
		{1001, 1000, 1}, {1001, 1, 1000}, {1001, 2, 999}, {end, 0, 1000}, {end, 1, 1000}, {end, end, 0}, {end, end - 1, 1}, {end - 1, end, 1}, {1, end, 1000},
	} {
		for n := 1; n <= 8; n++ {
			for k := range n {
				c, m := made(t, n)
				if e := tick(t, c, &m, x.d, all(n, x.d, k, x.a)...); e != api.OK || c.Drift() != x.want {
					t.Errorf("%d while true time goes on by %d, clock %d of %d: %d, Drift %d, not %d", x.a, x.d, k, n, e, c.Drift(), x.want)
				}
			}
		}
	}
}

// It is told of each tick by itself: what goes wrong in one is not made good in
// another, though the sums be the same.
func TestDriftStaysTheGreatest(t *testing.T) {
	c, m := made(t, 2)
	for _, x := range []struct{ d, first, second, want int }{
		{0, 0, 0, 0}, {100, 100, 100, 0}, {100, 99, 100, 10}, {100, 101, 100, 10}, {100, 100, 100, 10}, {1000, 1000, 991, 10},
		{1000, 1000, 989, 11}, {1000, 1000, 1011, 11}, {10, 10, 13, 300}, {10, 10, 7, 300}, {1 << 40, 1 << 40, 1 << 40, 300},
		{10, 0, 10, 1000}, {0, 10, 0, 1000}, {10, 10, 10, 1000}, {10, 11, 9, 1000}, {0, 0, 0, 1000},
	} {
		if e := tick(t, c, &m, x.d, x.first, x.second); e != api.OK || c.Drift() != x.want {
			t.Errorf("Tick(%d, %d %d) = %d, Drift %d, not %d", x.d, x.first, x.second, e, c.Drift(), x.want)
		}
	}
}

// Whichever of two clocks keeps worse, ahead or behind, it is the one that counts.
func TestDriftIsOfTheWorst(t *testing.T) {
	for n := 2; n <= 8; n++ {
		for k := range n {
			for _, a := range []int{900, 989, 1011, 1100} {
				c, m := made(t, n)
				by := all(n, 1000, k, a)
				by[(k+1)%n] = 1010
				by[(k+n-1)%n] = min(by[(k+n-1)%n], 1001)
				tick(t, c, &m, 1000, by...)
				if want := max(a, 1000) - min(a, 1000); c.Drift() != want {
					t.Errorf("%v: Drift %d, not %d", by, c.Drift(), want)
				}
			}
		}
	}
}

// All clocks keep within rho at every tick just if the drift is at most rho.
func TestDriftIsWhatAllKeepWithin(t *testing.T) {
	dice := rand.New(rand.NewSource(83))
	for range 300 {
		n := 1 + dice.Intn(8)
		c, m := made(t, n)
		worst := 0 // the least rho within which all ticks kept, by layer 3's Honest
		for range 10 {
			d := 1 + dice.Intn(3000)
			by := make([]int, n)
			for k := range by {
				by[k] = max(d+dice.Intn(2*d/3+2)-d/3, 0)
			}
			tick(t, c, &m, d, by...)
			for _, a := range by {
				for worst < 1000 && !term.Honest(d, a, worst) {
					worst++
				}
			}
			if c.Drift() != worst {
				t.Fatalf("Drift %d, not %d", c.Drift(), worst)
			}
		}
	}
}

// P8.4.

// moment: what clocks tell at one time.
type moment struct {
	truth int
	times []int
}

// at: the moment that it is.
func at(c *clocks.Clocks) moment {
	m := moment{truth: c.True()}
	for i := range c.Len() {
		m.times = append(m.times, c.Now(i))
	}
	return m
}

// someSpan: of any size, as often small as large, and now and then one that
// can't be.
func someSpan(dice *rand.Rand) int {
	switch dice.Intn(12) {
	case 0:
		return 0
	case 1:
		return edges[dice.Intn(len(edges))]
	case 2:
		return -dice.Intn(100)
	}
	return int(dice.Uint64() >> (4 + dice.Intn(60)))
}

func TestNoClockGoesBackOrPassesItsEnd(t *testing.T) {
	dice := rand.New(rand.NewSource(84))
	for round := range 200 {
		c, m := made(t, 1+round%8)
		was := at(c)
		for range 200 {
			by := make([]int, len(m.times))
			for k := range by {
				by[k] = someSpan(dice)
			}
			if dice.Intn(10) == 0 {
				by = by[1:]
			}
			tick(t, c, &m, someSpan(dice), by...)
			is := at(c)
			if is.truth < was.truth || is.truth > api.MaxTime {
				t.Fatalf("true time goes from %d to %d", was.truth, is.truth)
			}
			for k := range is.times {
				if is.times[k] < was.times[k] || is.times[k] > api.MaxTime {
					t.Fatalf("clock %d goes from %d to %d", k, was.times[k], is.times[k])
				}
			}
			was = is
		}
	}
}

// honest: does a clock that goes on by a, while true time goes on by d, keep
// within rho? Reckoned without bound.
func honest(d, a, rho int) bool {
	gone := new(big.Int).Mul(whole(1000), whole(a))
	least := new(big.Int).Mul(whole(d), whole(1000-rho))
	most := new(big.Int).Mul(whole(d), whole(1000+rho))
	return d >= 0 && a >= 0 && least.Cmp(gone) <= 0 && gone.Cmp(most) <= 0
}

// nearly: about as much as d, not farther from it than rho allows.
func nearly(dice *rand.Rand, d, rho int) int {
	room := int(new(big.Int).Div(new(big.Int).Mul(whole(d), whole(rho)), whole(1000)).Int64())
	switch dice.Intn(4) {
	case 0:
		return d - room
	case 1:
		return d + room
	}
	return d - room + dice.Intn(2*room+1)
}

func TestBetweenAnyTwoMomentsTheDriftHolds(t *testing.T) {
	dice := rand.New(rand.NewSource(85))
	for _, rho := range []int{0, 1, 10, 333, 500, 998, 999} {
		for round := range 30 {
			c, m := made(t, 1+round%8)
			moments := []moment{at(c)}
			for range 30 {
				d := int(dice.Uint64() >> (10 + dice.Intn(54)))
				by := make([]int, len(m.times))
				for k := range by {
					by[k] = nearly(dice, d, rho)
				}
				tick(t, c, &m, d, by...)
				moments = append(moments, at(c))
			}
			if c.Drift() > rho {
				t.Fatalf("Drift %d of clocks that kept within %d", c.Drift(), rho)
			}
			checkMoments(t, moments, c.Drift())
			checkMoments(t, moments, rho)
		}
	}
}

// checkMoments holds that between any two of these each clock kept within rho.
func checkMoments(t *testing.T, moments []moment, rho int) {
	t.Helper()
	for i, from := range moments {
		for _, to := range moments[i:] {
			d := to.truth - from.truth
			for k := range from.times {
				a := to.times[k] - from.times[k]
				if !honest(d, a, rho) || !term.Honest(d, a, rho) {
					t.Fatalf("clock %d went on by %d while true time went on by %d, not within %d", k, a, d, rho)
				}
			}
		}
	}
}

// R1.

func TestLongListsEnd(t *testing.T) {
	long := make([]int, 1<<24)
	for n := 1; n <= 8; n++ {
		c, m := gone(t, n)
		for _, d := range edges {
			if e := c.Tick(d, long); e != api.ErrRange {
				t.Errorf("Tick(%d) of %d numbers = %d", d, len(long), e)
			}
		}
		check(t, c, m)
	}
}

// R5.

// withRoom: these numbers, with spare room behind their end, filled with a mark.
func withRoom(by []int, mark int) []int {
	room := slices.Repeat([]int{mark}, len(by)+20)
	copy(room, by)
	return room[:len(by)]
}

// fill: all of a list, its spare room too.
func fill(by []int, a int) {
	by = by[:cap(by)]
	for i := range by {
		by[i] = a
	}
}

// Whether it is taken or refused, a list that is handed in stays as it is.
func TestListsHandedInStayAsTheyAre(t *testing.T) {
	for n := 1; n <= 8; n++ {
		c, m := gone(t, n)
		for _, numbers := range [][]int{all(n, 3, 0, 5), make([]int, n), all(n, 1, n-1, -1), all(n, 1, n-1, end), make([]int, n+1), nil} {
			for _, d := range []int{0, 4, -1, end} {
				by := withRoom(numbers, 77)
				before := slices.Clone(by[:cap(by)])
				want := m.tick(d, numbers)
				if e := c.Tick(d, by); e != want {
					t.Errorf("Tick(%d, %v) = %d, not %d", d, numbers, e, want)
				}
				check(t, c, m)
				if !slices.Equal(by[:cap(by)], before) {
					t.Errorf("Tick(%d, %v): it has become %v", d, numbers, by[:cap(by)])
				}
			}
		}
	}
}

// What is done to the list behind the Tick reaches no clock.
func TestListsHandedInAreNotKept(t *testing.T) {
	for n := 1; n <= 8; n++ {
		c, m := made(t, n)
		by := withRoom(make([]int, n), 77)
		for i := range 5 {
			fill(by, 100+i)
			tick(t, c, &m, 100, by...)
			fill(by, -1)
			check(t, c, m)
			fill(by, end)
			check(t, c, m)
		}
		if c.Now(n-1) != 510 || c.Drift() != 40 {
			t.Errorf("Now %d, Drift %d", c.Now(n-1), c.Drift())
		}
	}
}

// R7.

// Clocks that were made apart, and such as were copied, go on apart.
func TestSetsOfClocksDoNotTouchEachOther(t *testing.T) {
	dice := rand.New(rand.NewSource(87))
	var sets []*clocks.Clocks
	var models []model
	for _, n := range []int{3, 3, 8} {
		c, m := gone(t, n)
		other := *c
		sets = append(sets, c, &other)
		models = append(models, m, m.copied())
	}
	for range 2000 {
		i := dice.Intn(len(sets))
		d := dice.Intn(1 << dice.Intn(50))
		by := make([]int, len(models[i].times))
		for k := range by {
			by[k] = d + dice.Intn(d/100+1)
		}
		tick(t, sets[i], &models[i], d, by...)
		for j, c := range sets {
			check(t, c, models[j])
		}
	}
}

// The same list played on two sets is played on each.
func TestOneListForTwoSets(t *testing.T) {
	first, m := made(t, 2)
	second, n := made(t, 2)
	by := []int{99, 101}
	tick(t, first, &m, 100, by...)
	check(t, second, n)
	tick(t, second, &n, 100, by...)
	tick(t, first, &m, 0, 1, 0)
	check(t, second, n)
	if first.Drift() != 1000 || second.Drift() != 10 {
		t.Errorf("Drift %d and %d", first.Drift(), second.Drift())
	}
}

// What is asked is told the same each time, and changes nothing itself.
func TestAskedTwiceIsToldTwice(t *testing.T) {
	for n := 1; n <= 8; n++ {
		c, m := gone(t, n)
		for range 20 {
			check(t, c, m)
		}
	}
}
