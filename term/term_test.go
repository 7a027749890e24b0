package term_test

import (
	"math"
	"math/big"
	"math/rand"
	"slices"
	"testing"

	"sublet/api"
	"sublet/term"
)

// edges: the numbers that the document names, and those next to them.
var edges = []int{
	math.MinInt, math.MinInt + 1, -1 << 62, -1<<62 - 1, -1001, -1000, -5, -2, -1,
	0, 1, 2, 3, 4, 5, 7, 998, 999, 1000, 1001, 1999,
	1<<20 - 1, 1 << 20, 1<<20 + 1, 1 << 31, 1 << 40, 1 << 53, 1 << 60,
	1<<62 - 2, 1<<62 - 1, 1 << 62, 1<<62 + 1, 1<<62 + 2,
	math.MaxInt - 1, math.MaxInt,
}

// splits: the numbers next to those whose product by a thousand, or by what d
// is multiplied by, is as great as 64 bits hold, so that the halves of products
// differ.
func splits() []int {
	var all []int
	for _, k := range []uint64{2, 500, 999, 1000, 1001, 1500, 1990, 1999} {
		for _, most := range []uint64{math.MaxInt64, math.MaxUint64} {
			n := int(most / k)
			all = append(all, n-1, n, min(n, math.MaxInt-1)+1)
		}
	}
	return all
}

// someNumber: of any size, as often small as large.
func someNumber(r *rand.Rand) int {
	n := int(r.Uint64() >> r.Intn(64))
	if r.Intn(4) == 0 {
		return edges[r.Intn(len(edges))]
	}
	return n
}

// someSize: a number that isn't below 0.
func someSize(r *rand.Rand) int { return max(someNumber(r)&math.MaxInt, 0) }

// whole: n, without bound.
func whole(n int) *big.Int { return big.NewInt(int64(n)) }

// bounded: n as a time, without bound.
func bounded(n int) *big.Int {
	switch {
	case n < 0:
		return whole(0)
	case n > api.Forever:
		return whole(api.Forever)
	}
	return whole(n)
}

// wantAdd: what Add has to answer.
func wantAdd(at, t int) int {
	sum := new(big.Int).Add(bounded(at), bounded(t))
	if sum.Cmp(whole(api.Forever)) > 0 {
		return api.Forever
	}
	return int(sum.Int64())
}

// wantLeft: what Left has to answer.
func wantLeft(at, now int) int {
	left := new(big.Int).Sub(bounded(at), bounded(now))
	if left.Sign() < 0 {
		return 0
	}
	return int(left.Int64())
}

// wantHonest: what Honest has to answer.
func wantHonest(d, a, rho int) bool {
	if d < 0 || a < 0 || rho < 0 || rho > 999 {
		return false
	}
	gone := new(big.Int).Mul(whole(1000), whole(a))
	least := new(big.Int).Mul(whole(d), whole(1000-rho))
	most := new(big.Int).Mul(whole(d), whole(1000+rho))
	return least.Cmp(gone) <= 0 && gone.Cmp(most) <= 0
}

// wantLeast: what Least has to answer, by division: the least rho is as many
// thousandths of d, made whole upwards, as a and d are apart.
func wantLeast(d, a int) int {
	if d < 0 || a < 0 {
		return 1000
	}
	apart := new(big.Int).Sub(whole(a), whole(d))
	apart.Abs(apart).Mul(apart, whole(1000))
	if d == 0 {
		return 1000 * min(a, 1)
	}
	apart.Add(apart, whole(d-1)).Div(apart, whole(d))
	if apart.Cmp(whole(999)) > 0 {
		return 1000
	}
	return int(apart.Int64())
}

// P3.1.

func TestAddAnswersTheSum(t *testing.T) {
	for _, c := range []struct{ at, t, want int }{
		{5, 7, 12}, {-5, 7, 7}, {api.Forever, 1, api.Forever}, {1<<62 - 1, 5, api.Forever},
		{0, 0, 0}, {7, -5, 7}, {-5, -7, 0}, {0, 9, 9}, {9, 0, 9},
		{1<<62 - 1, 0, 1<<62 - 1}, {1<<62 - 1, 1, 1 << 62}, {1<<62 - 1, 2, 1 << 62},
		{1<<62 - 2, 1, 1<<62 - 1}, {1 << 61, 1 << 61, 1 << 62}, {1 << 61, 1<<61 - 1, 1<<62 - 1}, {1 << 61, 1<<61 + 1, 1 << 62},
		{api.Forever, 0, api.Forever}, {0, api.Forever, api.Forever}, {api.Forever, api.Forever, api.Forever},
		{1<<62 + 1, -1, api.Forever}, {-1, 1<<62 + 1, api.Forever}, {api.Forever, -1, api.Forever}, {-1, api.Forever, api.Forever},
		{math.MaxInt, math.MaxInt, api.Forever}, {math.MaxInt, 0, api.Forever}, {0, 9223372036854775807, api.Forever},
		{math.MinInt, math.MinInt, 0}, {math.MinInt, math.MaxInt, api.Forever}, {math.MaxInt, math.MinInt, api.Forever},
		{math.MinInt, 5, 5}, {5, math.MinInt, 5},
	} {
		if got := term.Add(c.at, c.t); got != c.want {
			t.Errorf("Add(%d, %d) = %d, not %d", c.at, c.t, got, c.want)
		}
	}
}

func TestLeftAnswersWhatIsLeft(t *testing.T) {
	for _, c := range []struct{ at, now, want int }{
		{12, 5, 7}, {5, 12, 0}, {api.Forever, 0, api.Forever}, {5, -3, 5},
		{0, 0, 0}, {5, 5, 0}, {6, 5, 1}, {5, 6, 0}, {-3, 5, 0}, {-3, -5, 0}, {-5, -3, 0},
		{api.Forever, api.Forever, 0}, {api.Forever, 1<<62 - 1, 1}, {1<<62 - 1, api.Forever, 0}, {1<<62 - 1, 0, 1<<62 - 1},
		{1<<62 + 1, 0, api.Forever}, {1<<62 + 1, api.Forever, 0}, {1<<62 + 2, 1<<62 + 1, 0}, {api.Forever, 1<<62 + 1, 0},
		{1<<62 + 1, 1<<62 - 1, 1}, {api.Forever, -1, api.Forever},
		{math.MaxInt, math.MinInt, api.Forever}, {math.MinInt, math.MaxInt, 0}, {math.MaxInt, math.MaxInt, 0},
		{math.MinInt, math.MinInt, 0}, {9223372036854775807, 1, 1<<62 - 1}, {1, math.MaxInt, 0}, {1, math.MinInt, 1}, {math.MinInt, 1, 0},
	} {
		if got := term.Left(c.at, c.now); got != c.want {
			t.Errorf("Left(%d, %d) = %d, not %d", c.at, c.now, got, c.want)
		}
	}
}

func TestAddAndLeftOfAnyNumbers(t *testing.T) {
	check := func(m, n int) {
		if got, want := term.Add(m, n), wantAdd(m, n); got != want {
			t.Errorf("Add(%d, %d) = %d, not %d", m, n, got, want)
		}
		if got, want := term.Left(m, n), wantLeft(m, n); got != want {
			t.Errorf("Left(%d, %d) = %d, not %d", m, n, got, want)
		}
	}
	for _, m := range edges {
		for _, n := range edges {
			check(m, n)
		}
	}
	r := rand.New(rand.NewSource(31))
	for range 100000 {
		check(someNumber(r), someNumber(r))
		check(int(r.Uint64()), int(r.Uint64()))
	}
}

// What is added to a time is left till it comes, but where the end cuts it off.
func TestLeftUndoesAdd(t *testing.T) {
	r := rand.New(rand.NewSource(32))
	for range 20000 {
		at, n := r.Intn(1<<61), r.Intn(1<<61)
		if got := term.Left(term.Add(at, n), at); got != n {
			t.Errorf("Left(Add(%d, %d), %d) = %d", at, n, at, got)
		}
	}
}

func TestLegalTellsTerms(t *testing.T) {
	for n := -10; n <= 1<<20+10; n++ {
		if got, want := term.Legal(n), !(n < 4 || n > 1048576); got != want {
			t.Fatalf("Legal(%d) = %t", n, got)
		}
	}
	for _, n := range edges {
		if got, want := term.Legal(n), !(n < 4 || n > 1048576); got != want {
			t.Errorf("Legal(%d) = %t", n, got)
		}
	}
}

// P3.2.

func TestShrinkAnswersTheExamples(t *testing.T) {
	for _, c := range []struct{ t, rho, want int }{
		{100, 0, 100}, {100, 10, 98}, {100, 500, 33}, {100, 999, 0},
		{0, 0, 0}, {0, 999, 0}, {1, 0, 1}, {1, 1, 0}, {2, 1, 1}, {3, 1, 2}, {3, 500, 1}, {4, 0, 4}, {4, 999, 0},
		{1999, 999, 1}, {1998, 999, 0}, {1001, 1, 999}, {1000, 1, 998}, {1002, 1, 999},
		{1048576, 0, 1048576}, {1048576, 999, 524}, {1048576, 1, 1046480}, {1048575, 0, 1048575},
	} {
		if n, e := term.Shrink(c.t, c.rho); n != c.want || e != api.OK {
			t.Errorf("Shrink(%d, %d) = %d, %d, not %d, OK", c.t, c.rho, n, e, c.want)
		}
	}
}

func TestShrinkRefusesWhatIsOutOfRange(t *testing.T) {
	rhos := append([]int{-1, 0, 1, 500, 999, 1000}, edges...)
	terms := append([]int{-1, 0, 4, 100, 1048576, 1048577}, edges...)
	for _, n := range terms {
		for _, rho := range rhos {
			bad := n < 0 || n > 1048576 || rho < 0 || rho > 999
			got, e := term.Shrink(n, rho)
			if bad && (got != 0 || e != api.ErrRange) {
				t.Errorf("Shrink(%d, %d) = %d, %d, not 0, ErrRange", n, rho, got, e)
			}
			if !bad && e != api.OK {
				t.Errorf("Shrink(%d, %d) = %d, %d, not OK", n, rho, got, e)
			}
		}
	}
}

// isGreatest: is n the greatest whole number that is not above
// t * (1000 - rho) / (1000 + rho)? (Asked by products alone.)
func isGreatest(n, t, rho int) bool {
	all := t * (1000 - rho)
	return n >= 0 && n*(1000+rho) <= all && (n+1)*(1000+rho) > all
}

func TestShrinkAnswersTheGreatest(t *testing.T) {
	check := func(n, rho int) {
		if got, e := term.Shrink(n, rho); e != api.OK || !isGreatest(got, n, rho) {
			t.Fatalf("Shrink(%d, %d) = %d, %d", n, rho, got, e)
		}
	}
	for rho := range 1000 {
		for n := range 2100 {
			check(n, rho)
		}
		for n := 1<<20 - 100; n <= 1<<20; n++ {
			check(n, rho)
		}
	}
	for n := range 1<<20 + 1 {
		for _, rho := range []int{0, 1, 10, 333, 500, 998, 999} {
			check(n, rho)
		}
	}
}

// P3.3.

func TestHonestAnswersTheExamples(t *testing.T) {
	for _, c := range []struct {
		d, a, rho int
		want      bool
	}{
		{100, 99, 10, true}, {100, 98, 10, false}, {0, 0, 0, true}, {0, 1, 999, false}, {-1, 0, 5, false},
		{100, 101, 10, true}, {100, 102, 10, false}, {100, 100, 0, true}, {100, 99, 0, false}, {100, 101, 0, false},
		{0, 0, 999, true}, {0, 0, -1, false}, {0, 0, 1000, false}, {100, 100, -1, false}, {100, 100, 1000, false},
		{100, 100, math.MinInt, false}, {100, 100, math.MaxInt, false}, {0, -1, 999, false}, {-1, -1, 999, false}, {5, -1, 999, false},
		{1, 0, 999, false}, {1000, 1, 999, true}, {1001, 1, 999, false}, {1000, 1999, 999, true}, {1000, 2000, 999, false}, {1000, 0, 999, false},
		{math.MinInt, math.MinInt, 0, false}, {math.MinInt, 0, 0, false}, {0, math.MinInt, 0, false},
		{math.MaxInt, math.MaxInt, 0, true}, {math.MaxInt, math.MaxInt - 1, 0, false}, {math.MaxInt - 1, math.MaxInt, 0, false},
		{math.MaxInt, math.MaxInt - 1, 1, true}, {math.MaxInt - 1, math.MaxInt, 1, true},
		{math.MaxInt, 9223372036854776, 999, true}, {math.MaxInt, 9223372036854775, 999, false},
		{1 << 62, math.MaxInt, 999, false}, {4611686018427387904, 9218760350836348420, 999, true}, {4611686018427387904, 9218760350836348421, 999, false},
		{math.MaxInt, 1, 999, false}, {1, math.MaxInt, 999, false}, {0, math.MaxInt, 999, false}, {math.MaxInt, 0, 999, false},
	} {
		if got := term.Honest(c.d, c.a, c.rho); got != c.want {
			t.Errorf("Honest(%d, %d, %d) = %t", c.d, c.a, c.rho, got)
		}
	}
}

func TestHonestOfAnyNumbers(t *testing.T) {
	check := func(d, a, rho int) {
		if got, want := term.Honest(d, a, rho), wantHonest(d, a, rho); got != want {
			t.Errorf("Honest(%d, %d, %d) = %t", d, a, rho, got)
		}
	}
	rhos := []int{math.MinInt, -1, 0, 1, 2, 500, 998, 999, 1000, 1001, math.MaxInt}
	for _, rho := range rhos {
		for d := -2; d < 60; d++ {
			for a := -2; a < 130; a++ {
				check(d, a, rho)
			}
		}
		for _, d := range slices.Concat(edges, splits()) {
			for _, a := range slices.Concat(edges, splits()) {
				check(d, a, rho)
			}
		}
	}
	r := rand.New(rand.NewSource(33))
	for range 100000 {
		check(someNumber(r), someNumber(r), r.Intn(1010)-5)
	}
}

// bounds: the least and the greatest a for which a clock keeps within rho.
func bounds(d, rho int) (*big.Int, *big.Int) {
	low := new(big.Int).Mul(whole(d), whole(1000-rho))
	low.Add(low, whole(999)).Div(low, whole(1000))
	high := new(big.Int).Mul(whole(d), whole(1000+rho))
	return low, high.Div(high, whole(1000))
}

// Right at both bounds, where a product that is cut to 64 bits would tell.
func TestHonestAtItsBounds(t *testing.T) {
	check := func(d, rho int) {
		low, high := bounds(d, rho)
		if high.Cmp(low) < 0 {
			t.Fatalf("d %d, rho %d: no bounds", d, rho)
		}
		for _, c := range []struct {
			a    *big.Int
			off  int
			want bool
		}{{low, -1, false}, {low, 0, true}, {high, 0, true}, {high, 1, false}} {
			a := new(big.Int).Add(c.a, whole(c.off))
			if !a.IsInt64() {
				continue
			}
			if got := term.Honest(d, int(a.Int64()), rho); got != c.want {
				t.Errorf("Honest(%d, %d, %d) = %t", d, a, rho, got)
			}
		}
	}
	for _, d := range slices.Concat(edges, splits()) {
		for rho := range 1000 {
			check(max(d, 0), rho)
		}
	}
	r := rand.New(rand.NewSource(34))
	for range 100000 {
		check(someSize(r), r.Intn(1000))
	}
}

func TestLeastAnswersTheExamples(t *testing.T) {
	for _, c := range []struct{ d, a, want int }{
		{100, 99, 10}, {100, 100, 0}, {3, 4, 334}, {0, 1, 1000}, {7, 0, 1000}, {1, 2, 1000},
		{0, 0, 0}, {1, 1, 0}, {1, 0, 1000}, {3, 2, 334}, {2, 1, 500}, {2, 3, 500}, {1000, 1, 999}, {1000, 1999, 999}, {1000, 2000, 1000}, {1001, 1, 1000},
		{-1, 0, 1000}, {0, -1, 1000}, {-1, -1, 1000}, {-5, 5, 1000}, {5, -5, 1000},
		{math.MinInt, math.MinInt, 1000}, {math.MaxInt, math.MinInt, 1000}, {math.MinInt, math.MaxInt, 1000},
		{math.MaxInt, math.MaxInt, 0}, {math.MaxInt, math.MaxInt - 1, 1}, {math.MaxInt - 1, math.MaxInt, 1},
		{math.MaxInt, 0, 1000}, {0, math.MaxInt, 1000}, {math.MaxInt, 1 << 62, 500}, {1 << 62, math.MaxInt, 1000}, {1 << 62, 1 << 61, 500},
		{math.MaxInt, 9223372036854776, 999}, {math.MaxInt, 9223372036854775, 1000},
	} {
		if got := term.Least(c.d, c.a); got != c.want {
			t.Errorf("Least(%d, %d) = %d, not %d", c.d, c.a, got, c.want)
		}
	}
}

func TestLeastOfAnyNumbers(t *testing.T) {
	check := func(d, a int) {
		if got, want := term.Least(d, a), wantLeast(d, a); got != want {
			t.Errorf("Least(%d, %d) = %d, not %d", d, a, got, want)
		}
	}
	for d := -2; d < 300; d++ {
		for a := -2; a < 700; a++ {
			check(d, a)
		}
	}
	for _, d := range slices.Concat(edges, splits()) {
		for _, a := range slices.Concat(edges, splits()) {
			check(d, a)
		}
	}
	r := rand.New(rand.NewSource(35))
	for range 50000 {
		d := someSize(r)
		check(d, someSize(r))
		low, high := bounds(d, r.Intn(1000))
		for _, a := range []*big.Int{low, high} {
			if a.IsInt64() {
				check(d, int(a.Int64()))
			}
		}
	}
}

// Least is the least: it holds for it, and for no smaller rho. (By going through them all.)
func TestLeastIsWhereHonestBegins(t *testing.T) {
	check := func(d, a int) {
		want := 0
		for want <= 999 && !term.Honest(d, a, want) {
			want++
		}
		if got := term.Least(d, a); got != want {
			t.Errorf("Least(%d, %d) = %d, not %d", d, a, got, want)
		}
	}
	for d := range 40 {
		for a := range 90 {
			check(d, a)
		}
	}
	for _, d := range edges {
		for _, a := range edges {
			check(d, a)
		}
	}
}

// P3.4.

// checkVow: with a just below what is shrunk, and the longest true time that
// an honest clock shows so, no honest clock gets to t in as much true time.
func checkVow(t *testing.T, n, rho int) {
	t.Helper()
	s, e := term.Shrink(n, rho)
	if e != api.OK || s == 0 {
		return
	}
	a := s - 1
	d := 1000 * a / (1000 - rho)
	b := d * (1000 + rho) / 1000
	if !term.Honest(d, a, rho) || !term.Honest(d, b, rho) {
		t.Fatalf("t %d, rho %d: a %d and b %d aren't both honest over %d", n, rho, a, b, d)
	}
	if b >= n {
		t.Fatalf("t %d, rho %d: Shrink is %d, but over %d one clock goes on by %d, another by %d", n, rho, s, d, a, b)
	}
}

func TestShrunkTermEndsFirst(t *testing.T) {
	for rho := range 1000 {
		for n := range 2100 {
			checkVow(t, n, rho)
		}
	}
	r := rand.New(rand.NewSource(36))
	for range 200000 {
		checkVow(t, r.Intn(1<<20+1), r.Intn(1000))
	}
	for _, n := range []int{3, 4, 1<<20 - 1, 1 << 20} {
		for rho := range 1000 {
			checkVow(t, n, rho)
		}
	}
}

// The same, for all clocks of a small world: no choice of spans is left out.
func TestShrunkTermEndsFirstOverAllSpans(t *testing.T) {
	const most = 14
	for _, rho := range []int{0, 1, 50, 100, 250, 333, 500, 750, 999} {
		for n := range most {
			s, _ := term.Shrink(n, rho)
			for d := range 3 * most {
				for a := range s {
					if !term.Honest(d, a, rho) {
						continue
					}
					for c := range d + 1 {
						for b := n; b < 6*most; b++ {
							if term.Honest(c, b, rho) {
								t.Fatalf("t %d, rho %d, Shrink %d: a %d over %d, and b %d over %d", n, rho, s, a, d, b, c)
							}
						}
					}
				}
			}
		}
	}
}

// P3.5.

func TestSpansAddUp(t *testing.T) {
	for _, rho := range []int{0, 1, 100, 333, 500, 999} {
		var spans [][2]int
		for d := range 25 {
			for a := range 50 {
				if term.Honest(d, a, rho) {
					spans = append(spans, [2]int{d, a})
				}
			}
		}
		for _, x := range spans {
			for _, y := range spans {
				if !term.Honest(x[0]+y[0], x[1]+y[1], rho) {
					t.Fatalf("rho %d: %v and %v are honest, both together aren't", rho, x, y)
				}
			}
		}
	}
}

// someSpan: of up to d, with a clock that keeps within rho, often at its bound.
func someSpan(r *rand.Rand, d, rho int) (int, int, bool) {
	d = r.Intn(d) >> r.Intn(3)
	low, high := bounds(d, rho)
	a := new(big.Int).Sub(high, low)
	switch r.Intn(3) {
	case 0:
		a = low
	case 1:
		a = high
	default:
		a.Rand(r, a.Add(a, whole(1))).Add(a, low)
	}
	return d, int(a.Int64()), a.IsInt64()
}

func TestGreatSpansAddUp(t *testing.T) {
	r := rand.New(rand.NewSource(37))
	told := 0
	for range 100000 {
		rho := r.Intn(1000)
		d, a, ok := someSpan(r, 1<<62, rho)
		c, b, fine := someSpan(r, 1<<62, rho)
		if !ok || !fine || a > math.MaxInt-b {
			continue
		}
		told++
		if !term.Honest(d, a, rho) || !term.Honest(c, b, rho) {
			t.Fatalf("rho %d: %d over %d, or %d over %d, isn't honest", rho, a, d, b, c)
		}
		if !term.Honest(d+c, a+b, rho) {
			t.Errorf("rho %d: %d over %d and %d over %d are honest, both together aren't", rho, a, d, b, c)
		}
	}
	if told < 10000 {
		t.Errorf("only %d pairs of spans were tried", told)
	}
}

// Up to the greatest number: two halves of it, and all of it with nothing.
func TestSpansAddUpToTheGreatestNumber(t *testing.T) {
	const half = 1 << 62
	for _, rho := range []int{0, 1, 999} {
		for _, c := range [][2]int{{half, half - 1}, {half - 1, half}, {math.MaxInt, 0}, {0, math.MaxInt}} {
			if !term.Honest(c[0], c[0], rho) || !term.Honest(c[1], c[1], rho) || !term.Honest(c[0]+c[1], c[0]+c[1], rho) {
				t.Errorf("rho %d: true clocks aren't honest over %d, %d and both together", rho, c[0], c[1])
			}
		}
	}
}
