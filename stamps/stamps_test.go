package stamps_test

import (
	"fmt"
	"math"
	"math/big"
	"math/rand"
	"regexp"
	"slices"
	"strings"
	"testing"

	"sublet/api"
	"sublet/stamps"
)

// most is the greatest number that a counter may be.
const most = 1 << 40

// edges: the numbers that the document names, those next to them, and those at
// which numbers of fewer bits wrap round.
var edges = []int{
	math.MinInt, math.MinInt + 1, -most - 1, -most, -1 << 32, -2, -1,
	0, 1, 2, 9, 10, 1<<31 - 1, 1 << 31, 1 << 32, 1<<32 + 1,
	most - 1, most, most + 1, 2 * most, most + 1<<32, 1 << 53, 1 << 62, math.MaxInt - 1, math.MaxInt,
}

// stampForm says what a stamp's text is, but for how great its numbers may be.
var stampForm = regexp.MustCompile(`\A(-|[1-9][0-9]*(\.[1-9][0-9]*){0,3})\z`)

// isStamp says what a stamp is in another way than the package does.
func isStamp(s []int) bool {
	bad := func(n int) bool { return n < 1 || n > 1099511627776 }
	return len(s) < 5 && !slices.ContainsFunc(s, bad)
}

// begins: does b begin with all of a?
func begins(a, b []int) bool {
	return len(a) <= len(b) && slices.Equal(a, b[:len(a)])
}

// textOf: what Text has to answer.
func textOf(s []int) string {
	if len(s) == 0 {
		return "-"
	}
	return strings.ReplaceAll(strings.Trim(fmt.Sprint(s), "[]"), " ", ".")
}

// stampOf: what Parse has to answer, by numbers without bound.
func stampOf(t string) ([]int, bool) {
	if !stampForm.MatchString(t) {
		return nil, false
	}
	var s []int
	for _, piece := range strings.Split(strings.Trim(t, "-"), ".") {
		n, ok := new(big.Int).SetString(piece, 10)
		if t == "-" {
			break
		}
		if !ok || n.Cmp(big.NewInt(most)) > 0 {
			return nil, false
		}
		s = append(s, int(n.Int64()))
	}
	return s, true
}

// allLists: all lists of up to so many of these numbers, shorter ones first.
func allLists(size int, numbers ...int) [][]int {
	all, last := [][]int{nil}, [][]int{nil}
	for range size {
		var next [][]int
		for _, s := range last {
			for _, n := range numbers {
				next = append(next, append(slices.Clone(s), n))
			}
		}
		all, last = append(all, next...), next
	}
	return all
}

// someList: stamps and others, of up to so many numbers, often alike.
func someList(r *rand.Rand, size int) []int {
	s := make([]int, r.Intn(size+1))
	for i := range s {
		switch r.Intn(4) {
		case 0:
			s[i] = edges[r.Intn(len(edges))]
		case 1:
			s[i] = 1 + r.Intn(most)
		default:
			s[i] = 1 + r.Intn(2)
		}
	}
	return s
}

// someStamp: of up to so many counters.
func someStamp(r *rand.Rand, size int) []int {
	s := make([]int, r.Intn(size+1))
	for i := range s {
		s[i] = 1 + r.Intn(most)>>r.Intn(41)
		if r.Intn(8) == 0 {
			s[i] = most - r.Intn(2)
		}
	}
	return s
}

// P4.1.

func TestValidTellsStamps(t *testing.T) {
	for _, c := range []struct {
		s    []int
		want bool
	}{
		{nil, true}, {[]int{}, true}, {[]int{5, 1, 2}, true}, {[]int{1}, true}, {[]int{1, 1, 1, 1}, true}, {[]int{4, 3, 2, 1}, true},
		{[]int{1, 1, 1, 1, 1}, false}, {[]int{1, 2, 3, 4, 5}, false}, {[]int{1, 1, 1, 1, 1, 1}, false},
		{[]int{0}, false}, {[]int{0, 1}, false}, {[]int{1, 0}, false}, {[]int{1, 1, 1, 0}, false}, {[]int{0, 0, 0, 0}, false},
		{[]int{-1}, false}, {[]int{5, -1, 2}, false}, {[]int{math.MinInt}, false}, {[]int{-most}, false},
		{[]int{1099511627775}, true}, {[]int{1099511627776}, true}, {[]int{1099511627777}, false}, {[]int{most, most, most, most}, true},
		{[]int{most, most, most, most, most}, false}, {[]int{1, 1, 1, most + 1}, false}, {[]int{most + 1, 1}, false}, {[]int{math.MaxInt}, false},
	} {
		if got := stamps.Valid(c.s); got != c.want {
			t.Errorf("Valid(%v) = %t", c.s, got)
		}
	}
}

func TestValidAtEachPlace(t *testing.T) {
	for count := 1; count <= api.MaxDepth+2; count++ {
		for at := range count {
			for _, n := range edges {
				s := slices.Repeat([]int{7}, count)
				s[at] = n
				want := count <= 4 && n >= 1 && n <= 1<<40
				if got := stamps.Valid(s); got != want {
					t.Errorf("Valid(%v) = %t", s, got)
				}
			}
		}
	}
}

func TestCompareAnswersTheExamples(t *testing.T) {
	for _, c := range []struct {
		a, b []int
		want int
	}{
		{[]int{5}, []int{5, 1}, -1}, {[]int{5, 1}, []int{5, 2}, -1}, {[]int{5, 9}, []int{6}, -1}, {[]int{5}, []int{5}, 0},
		{nil, nil, 0}, {nil, []int{}, 0}, {[]int{}, []int{}, 0}, {nil, []int{1}, -1}, {nil, []int{0}, -1}, {nil, []int{-1}, -1},
		{[]int{9}, []int{10}, -1}, {[]int{2, 1}, []int{10}, -1}, {[]int{1, 2}, []int{2, 1}, -1}, {[]int{5, 1, 9}, []int{5, 2, 1}, -1},
		{[]int{-1}, []int{0}, -1}, {[]int{-2}, []int{-1}, -1}, {[]int{0}, []int{0, -1}, -1}, {[]int{0}, []int{0, 0}, -1},
		{[]int{most}, []int{most + 1}, -1}, {[]int{1}, []int{most + 1}, -1}, {[]int{1 << 32}, []int{1<<32 + 1}, -1}, {[]int{1}, []int{1 << 32}, -1},
		{[]int{math.MinInt}, []int{math.MaxInt}, -1}, {[]int{math.MinInt}, []int{1}, -1}, {[]int{-1}, []int{math.MaxInt}, -1}, {[]int{math.MinInt, math.MaxInt}, []int{math.MinInt + 1, math.MinInt}, -1},
		{[]int{1, 1, 1, 1}, []int{1, 1, 1, 1, 1}, -1}, {[]int{1, 1, 1, 1, 1}, []int{1, 1, 1, 1, 2}, -1}, {[]int{1, 1, 1, 1, 9, 9}, []int{1, 1, 1, 1, 10}, -1},
		{[]int{1, 1, 1, 1, 1, 1}, []int{1, 1, 1, 1, 1, 1}, 0}, {[]int{math.MinInt}, []int{math.MinInt}, 0},
	} {
		if got := stamps.Compare(c.a, c.b); got != c.want {
			t.Errorf("Compare(%v, %v) = %d, not %d", c.a, c.b, got, c.want)
		}
		if got := stamps.Compare(c.b, c.a); got != -c.want {
			t.Errorf("Compare(%v, %v) = %d, not %d", c.b, c.a, got, -c.want)
		}
	}
}

func TestUnderAnswersTheExamples(t *testing.T) {
	for _, c := range []struct {
		a, b []int
		want bool
	}{
		{[]int{5}, []int{5, 1}, true}, {[]int{5, 1}, []int{5}, false}, {nil, []int{7}, true},
		{nil, nil, true}, {nil, []int{}, true}, {[]int{}, nil, true}, {[]int{7}, nil, false}, {[]int{0}, nil, false},
		{[]int{5}, []int{5}, true}, {[]int{5}, []int{6}, false}, {[]int{5}, []int{4, 5}, false}, {[]int{1}, []int{5, 1}, false},
		{[]int{5, 1}, []int{5, 1, 9, 9}, true}, {[]int{5, 1}, []int{5, 2}, false}, {[]int{5, 1}, []int{4, 1, 1}, false}, {[]int{5, 2}, []int{5, 1, 2}, false},
		{[]int{0}, []int{0, 0}, true}, {[]int{-1}, []int{-1, 5}, true}, {[]int{most + 1}, []int{most + 1, math.MinInt}, true}, {nil, []int{0, -1, most + 1, 1, 1, 1}, true},
		{[]int{1, 1, 1, 1}, []int{1, 1, 1, 1, 1}, true}, {[]int{1, 1, 1, 1, 1}, []int{1, 1, 1, 1, 1, 1}, true}, {[]int{1, 1, 1, 1, 1}, []int{1, 1, 1, 1}, false},
		{[]int{1, 1, 1, 1, 1}, []int{1, 1, 1, 1, 2, 1}, false}, {[]int{1}, []int{1<<32 + 1, 1}, false}, {[]int{most}, []int{most + 1}, false},
	} {
		if got := stamps.Under(c.a, c.b); got != c.want {
			t.Errorf("Under(%v, %v) = %t", c.a, c.b, got)
		}
	}
}

// checkPair holds the three calls that take two lists against the library's.
func checkPair(t *testing.T, a, b []int) {
	t.Helper()
	want := slices.Compare(a, b)
	if got := stamps.Compare(a, b); got != want {
		t.Fatalf("Compare(%v, %v) = %d, not %d", a, b, got, want)
	}
	if got := stamps.Under(a, b); got != begins(a, b) {
		t.Fatalf("Under(%v, %v) = %t", a, b, got)
	}
	later := a
	if want < 0 {
		later = b
	}
	if got := stamps.Later(a, b); !slices.Equal(got, later) {
		t.Fatalf("Later(%v, %v) = %v", a, b, got)
	}
}

func TestTwoListsOfAnyNumbers(t *testing.T) {
	all := append(allLists(4, 1, 2, 10), allLists(2, edges...)...)
	all = append(all, allLists(6, 1, -1)...)
	for _, a := range all {
		for _, b := range all {
			checkPair(t, a, b)
		}
	}
	r := rand.New(rand.NewSource(41))
	for range 100000 {
		a, b := someList(r, 7), someList(r, 7)
		checkPair(t, a, b)
		checkPair(t, a, append(slices.Clone(a), b...))
		checkPair(t, append(slices.Clone(a), b...), a)
	}
}

func TestLaterAnswersTheLaterOne(t *testing.T) {
	for _, c := range []struct{ a, b, want []int }{
		{[]int{5}, []int{5, 1}, []int{5, 1}}, {[]int{5, 1}, []int{5}, []int{5, 1}}, {[]int{5, 9}, []int{6}, []int{6}}, {[]int{6}, []int{5, 9}, []int{6}},
		{nil, nil, nil}, {nil, []int{1}, []int{1}}, {[]int{1}, nil, []int{1}}, {[]int{5}, []int{5}, []int{5}},
		{nil, []int{0}, []int{0}}, {[]int{-1}, nil, []int{-1}}, {[]int{0}, []int{-1}, []int{0}}, {[]int{-2}, []int{-1, 0}, []int{-1, 0}},
		{[]int{most}, []int{most + 1}, []int{most + 1}}, {[]int{math.MaxInt}, []int{math.MinInt}, []int{math.MaxInt}},
		{[]int{1, 1, 1, 1}, []int{1, 1, 1, 1, 1}, []int{1, 1, 1, 1, 1}}, {[]int{1, 1, 1, 1, 2}, []int{1, 1, 1, 1, 1, 9}, []int{1, 1, 1, 1, 2}},
	} {
		if got := stamps.Later(c.a, c.b); !slices.Equal(got, c.want) {
			t.Errorf("Later(%v, %v) = %v, not %v", c.a, c.b, got, c.want)
		}
	}
}

// P4.2.

// checkExtend: the errors in their order, and what is answered beside them.
func checkExtend(t *testing.T, s []int, n int) {
	t.Helper()
	var want []int
	code := api.OK
	switch {
	case !isStamp(s):
		code = api.ErrStamp
	case len(s) == 4:
		code = api.ErrTooDeep
	case n < 1 || n > 1099511627776:
		code = api.ErrCounts
	default:
		want = append(slices.Clone(s), n)
	}
	if got, e := stamps.Extend(s, n); e != code || !slices.Equal(got, want) {
		t.Errorf("Extend(%v, %d) = %v, %d, not %v, %d", s, n, got, e, want, code)
	}
}

// checkNext: the same of Next.
func checkNext(t *testing.T, s []int) {
	t.Helper()
	var want []int
	code := api.OK
	switch {
	case !isStamp(s) || len(s) == 0:
		code = api.ErrStamp
	case s[len(s)-1] == 1099511627776:
		code = api.ErrCounts
	default:
		want = append(slices.Clone(s[:len(s)-1]), s[len(s)-1]+1)
	}
	if got, e := stamps.Next(s); e != code || !slices.Equal(got, want) {
		t.Errorf("Next(%v) = %v, %d, not %v, %d", s, got, e, want, code)
	}
}

func TestExtendAnswersTheExamples(t *testing.T) {
	for _, c := range []struct {
		s    []int
		n    int
		want []int
		code api.Errno
	}{
		{[]int{5}, 3, []int{5, 3}, api.OK}, {[]int{1, 1, 1, 1}, 3, nil, api.ErrTooDeep}, {[]int{5}, 0, nil, api.ErrCounts},
		{nil, 1, []int{1}, api.OK}, {[]int{}, 1, []int{1}, api.OK}, {nil, most, []int{most}, api.OK}, {[]int{1, 2, 3}, 4, []int{1, 2, 3, 4}, api.OK},
		{[]int{most, most, most}, most, []int{most, most, most, most}, api.OK}, {[]int{9}, 1, []int{9, 1}, api.OK},
		{nil, 0, nil, api.ErrCounts}, {nil, -1, nil, api.ErrCounts}, {nil, most + 1, nil, api.ErrCounts}, {[]int{1, 2, 3}, most + 1, nil, api.ErrCounts},
		{[]int{5}, math.MinInt, nil, api.ErrCounts}, {[]int{5}, math.MaxInt, nil, api.ErrCounts}, {[]int{5}, 1<<32 + most, nil, api.ErrCounts},
		{[]int{1, 1, 1, 1}, 0, nil, api.ErrTooDeep}, {[]int{1, 1, 1, 1}, most + 1, nil, api.ErrTooDeep}, {[]int{most, most, most, most}, most, nil, api.ErrTooDeep},
		{[]int{0}, 3, nil, api.ErrStamp}, {[]int{0}, 0, nil, api.ErrStamp}, {[]int{1, 1, 1, 0}, 3, nil, api.ErrStamp}, {[]int{-1, 1, 1, 1}, 0, nil, api.ErrStamp},
		{[]int{1, 1, 1, 1, 1}, 3, nil, api.ErrStamp}, {[]int{1, 1, 1, 1, 1}, 0, nil, api.ErrStamp}, {[]int{most + 1}, 3, nil, api.ErrStamp}, {[]int{1, 1, 1, most + 1}, 3, nil, api.ErrStamp},
	} {
		if got, e := stamps.Extend(c.s, c.n); e != c.code || !slices.Equal(got, c.want) {
			t.Errorf("Extend(%v, %d) = %v, %d, not %v, %d", c.s, c.n, got, e, c.want, c.code)
		}
	}
}

func TestNextAnswersTheExamples(t *testing.T) {
	for _, c := range []struct {
		s, want []int
		code    api.Errno
	}{
		{[]int{5, 3}, []int{5, 4}, api.OK}, {nil, nil, api.ErrStamp}, {[]int{1099511627776}, nil, api.ErrCounts},
		{[]int{}, nil, api.ErrStamp}, {[]int{1}, []int{2}, api.OK}, {[]int{9}, []int{10}, api.OK}, {[]int{1, 2, 3, 4}, []int{1, 2, 3, 5}, api.OK},
		{[]int{most - 1}, []int{most}, api.OK}, {[]int{most, 1}, []int{most, 2}, api.OK}, {[]int{1, most}, nil, api.ErrCounts}, {[]int{most, most, most, most}, nil, api.ErrCounts},
		{[]int{0}, nil, api.ErrStamp}, {[]int{-1}, nil, api.ErrStamp}, {[]int{0, 1}, nil, api.ErrStamp}, {[]int{1, 0}, nil, api.ErrStamp}, {[]int{0, most}, nil, api.ErrStamp},
		{[]int{most + 1}, nil, api.ErrStamp}, {[]int{most + 1, most}, nil, api.ErrStamp}, {[]int{math.MaxInt}, nil, api.ErrStamp}, {[]int{math.MinInt}, nil, api.ErrStamp},
		{[]int{1, 1, 1, 1, 1}, nil, api.ErrStamp}, {[]int{1, 1, 1, 1, most}, nil, api.ErrStamp}, {[]int{1, 1, 1, 1, most + 1}, nil, api.ErrStamp},
	} {
		if got, e := stamps.Next(c.s); e != c.code || !slices.Equal(got, c.want) {
			t.Errorf("Next(%v) = %v, %d, not %v, %d", c.s, got, e, c.want, c.code)
		}
	}
}

func TestExtendAndNextOfAnyLists(t *testing.T) {
	all := append(allLists(6, 1, 2, 0), allLists(5, 7, most)...)
	for _, s := range append(all, allLists(2, edges...)...) {
		checkNext(t, s)
		for _, n := range edges {
			checkExtend(t, s, n)
		}
	}
	r := rand.New(rand.NewSource(42))
	for range 50000 {
		for _, s := range [][]int{someList(r, 6), someStamp(r, 4)} {
			checkNext(t, s)
			checkExtend(t, s, edges[r.Intn(len(edges))])
			checkExtend(t, s, 1+r.Intn(most))
		}
	}
}

// P4.3.

func TestTextAnswersTheExamples(t *testing.T) {
	for _, c := range []struct {
		s    []int
		want string
	}{
		{[]int{5, 1, 2}, "5.1.2"}, {nil, "-"}, {[]int{}, "-"}, {[]int{1}, "1"}, {[]int{10, 200}, "10.200"}, {[]int{1, 1, 1, 1}, "1.1.1.1"},
		{[]int{0}, "0"}, {[]int{0, 0}, "0.0"}, {[]int{-1}, "-1"}, {[]int{5, -3}, "5.-3"}, {[]int{-5, 3}, "-5.3"}, {[]int{1, 1, 1, 1, 1}, "1.1.1.1.1"},
		{[]int{1099511627776, 1099511627777}, "1099511627776.1099511627777"}, {[]int{math.MaxInt, math.MinInt}, "9223372036854775807.-9223372036854775808"},
	} {
		if got := stamps.Text(c.s); got != c.want {
			t.Errorf("Text(%v) = %q, not %q", c.s, got, c.want)
		}
	}
}

func TestTextOfAnyLists(t *testing.T) {
	for _, s := range append(allLists(6, 1, 20, -3), allLists(2, edges...)...) {
		if got := stamps.Text(s); got != textOf(s) {
			t.Fatalf("Text(%v) = %q", s, got)
		}
	}
	r := rand.New(rand.NewSource(43))
	for range 20000 {
		s := someList(r, 20)
		if got := stamps.Text(s); got != textOf(s) {
			t.Fatalf("Text(%v) = %q", s, got)
		}
	}
}

func TestParseAnswersTheExamples(t *testing.T) {
	for text, want := range map[string][]int{
		"5.1.2": {5, 1, 2}, "-": nil, "1": {1}, "9": {9}, "10": {10}, "1.1.1.1": {1, 1, 1, 1}, "100.20.3": {100, 20, 3},
		"1099511627775": {1099511627775}, "1099511627776": {1099511627776},
		"1099511627776.1099511627776.1099511627776.1099511627776": {most, most, most, most},
	} {
		if got, e := stamps.Parse(text); e != api.OK || !slices.Equal(got, want) {
			t.Errorf("Parse(%q) = %v, %d, not %v, OK", text, got, e, want)
		}
	}
}

// noTexts are texts of no stamp, most of them for one fault.
var noTexts = []string{
	"", "0", "00", "05", "1.0", "0.1", "1.05", "05.1", "1.1.1.0", "1.1.1.01", "001", "1.1.1.1.0", "0.0",
	"+", "+5", "-5", "--", "-0", "+0", "1.+5", "1.-5", "-5.1", "+5.1", "--5", "5-", "-.", ".-", "-.-", "1.-", "-.1", "- ",
	".", "..", ".5", "5.", "5..1", ".5.1", "5.1.", "1.1.1.", ".1.1.1", "1.1.1.1.", ".1.1.1.1", "1..1.1", "...", "....", "1.1..1.1",
	"1.1.1.1.1", "1.2.3.4.5", "1.1.1.1.1.1",
	"1099511627777", "1.1099511627777", "1099511627777.1", "1.1.1.1099511627777", "2199023255552", "1100000000000", "9999999999999", "10995116277760",
	"4611686018427387904", "9223372036854775807", "9223372036854775808", "9223372036854775809", "-9223372036854775808", "-9223372036854775809",
	"18446744073709551615", "18446744073709551616", "18446744073709551617", "18446744073709551621.1", "1.18446744073709551617",
	"36893488147419103233", "340282366920938463463374607431768211457", "99999999999999999999999999999999", "00000000000000000000000000000005",
	" ", " 5", "5 ", "5. 1", "5 .1", "5 1", "5,1", "5_1", "1_000", "5\n", "\n", "\n5", "5\x00", "\x00", "\x00-", "-\x00", "5.1\t",
	"a", "5a", "a5", "0x5", "5e1", "1e3", "5.a", "f", "0b1", "0o7", "Inf", "NaN", "5/1", "5:1",
	"\xff", "5\xff", "\u0665", "\uff15", "5\u00b7" + "1", "\u2212", "\u2013", "5\u200b",
}

func TestParseRefusesWhatIsNoText(t *testing.T) {
	for _, text := range noTexts {
		if got, e := stamps.Parse(text); e != api.ErrStamp || len(got) != 0 {
			t.Errorf("Parse(%q) = %v, %d, not nothing, ErrStamp", text, got, e)
		}
	}
}

// checkParse holds Parse against stampOf.
func checkParse(t *testing.T, text string) {
	t.Helper()
	want, ok := stampOf(text)
	code := api.OK
	if !ok {
		code = api.ErrStamp
	}
	if got, e := stamps.Parse(text); e != code || !slices.Equal(got, want) {
		t.Fatalf("Parse(%.80q) = %v, %d, not %v, %d", text, got, e, want, code)
	}
}

func TestParseOfEveryShortText(t *testing.T) {
	texts := []string{""}
	// Of up to nine bytes: five counters with their points are as many.
	for range 10 {
		var next []string
		for _, text := range texts {
			checkParse(t, text)
			for _, c := range "015.-" {
				next = append(next, text+string(c))
			}
		}
		// Shorter texts take every fault; of the longer ones points are enough.
		if len(next) > 20000 {
			next = slices.DeleteFunc(next, func(text string) bool { return strings.ContainsAny(text, "5-") })
		}
		texts = next
	}
}

func TestParseOfEveryByte(t *testing.T) {
	for c := range 256 {
		b := string([]byte{byte(c)})
		for _, text := range []string{b, b + "5", "5" + b, "1" + b + "1", "1." + b, b + ".1", "1.1.1." + b, "1.1" + b + "1.1", "1.1.1.1" + b, "-" + b, b + "-"} {
			checkParse(t, text)
		}
	}
}

func TestParseOfAnyTexts(t *testing.T) {
	r := rand.New(rand.NewSource(44))
	for range 50000 {
		s := someStamp(r, 6)
		text := []byte(textOf(s))
		checkParse(t, string(text))
		at := r.Intn(len(text))
		text[at] = "0123456789.-+ a"[r.Intn(15)]
		checkParse(t, string(text))
		checkParse(t, string(slices.Delete(text, at, at+1)))
		checkParse(t, textOf(someList(r, 6)))
	}
}

// Numbers just at what a counter and what a number may be, at each place, and
// those that wrap round to small ones.
func TestParseOfGreatNumbers(t *testing.T) {
	for _, bits := range []uint{31, 32, 40, 53, 62, 63, 64, 65, 104, 128} {
		for off := int64(-2); off <= 6; off++ {
			n := new(big.Int).Lsh(big.NewInt(1), bits)
			digits := n.Add(n, big.NewInt(off)).String()
			for _, text := range []string{digits, "1." + digits, digits + ".1", "1.1.1." + digits, "0" + digits, "-" + digits, "+" + digits, digits + "0"} {
				checkParse(t, text)
			}
		}
	}
}

// P4.4.

func TestCompareIsAnOrder(t *testing.T) {
	all := append(allLists(3, 1, 2, 5), allLists(5, 0, -1)...)
	all = append(all, allLists(1, edges...)...)
	for _, a := range all {
		for _, b := range all {
			n := stamps.Compare(a, b)
			if n < -1 || n > 1 || n != -stamps.Compare(b, a) || (n == 0) != slices.Equal(a, b) {
				t.Fatalf("Compare(%v, %v) = %d, and the other way %d", a, b, n, stamps.Compare(b, a))
			}
			if n > 0 {
				continue
			}
			for _, c := range all {
				if stamps.Compare(b, c) <= 0 && stamps.Compare(a, c) > 0 {
					t.Fatalf("%v is not later than %v, nor that than %v, but the first than the last", a, b, c)
				}
			}
		}
	}
}

// checkBelow: where what is under s stands, held against another list.
func checkBelow(t *testing.T, s, below, other []int) {
	t.Helper()
	if stamps.Compare(s, below) != -1 {
		t.Fatalf("%v is under %v, and not later", below, s)
	}
	if next, e := stamps.Next(s); e == api.OK && stamps.Compare(below, next) != -1 {
		t.Fatalf("%v is under %v, and not earlier than %v", below, s, next)
	}
	if stamps.Compare(s, other) == -1 && !stamps.Under(s, other) && stamps.Compare(below, other) != -1 {
		t.Fatalf("%v is under %v, and not earlier than %v", below, s, other)
	}
}

func TestWhatIsUnderStandsTogether(t *testing.T) {
	all := append(allLists(4, 1, 2), allLists(3, 3, most-1, most)...)
	all = append(all, allLists(2, 0, -1, most+1)...)
	for _, s := range all {
		for _, below := range all {
			if slices.Equal(s, below) || !stamps.Under(s, below) {
				continue
			}
			for _, other := range all {
				checkBelow(t, s, below, other)
			}
		}
	}
	r := rand.New(rand.NewSource(45))
	for range 100000 {
		s := someStamp(r, 3)
		below := append(slices.Clone(s), 1+r.Intn(most))
		checkBelow(t, s, append(below, someStamp(r, 4-len(below))...), someStamp(r, 4))
	}
}

func TestExtendStaysUnder(t *testing.T) {
	check := func(s []int, m, n int) {
		first, e := stamps.Extend(s, m)
		second, f := stamps.Extend(s, n)
		if e != api.OK || f != api.OK {
			t.Fatalf("Extend(%v, %d or %d): %d, %d", s, m, n, e, f)
		}
		if !stamps.Under(s, first) || !stamps.Under(s, second) || !stamps.Valid(first) || !stamps.Valid(second) {
			t.Fatalf("%v or %v isn't a stamp under %v", first, second, s)
		}
		if m < n && stamps.Compare(first, second) != -1 || m > n && stamps.Compare(first, second) != 1 || m == n && stamps.Compare(first, second) != 0 {
			t.Fatalf("Compare(%v, %v) = %d", first, second, stamps.Compare(first, second))
		}
	}
	for _, s := range allLists(3, 1, 2, most) {
		for _, m := range []int{1, 2, 3, most - 1, most} {
			for _, n := range []int{1, 2, 3, 1 << 32, most} {
				check(s, m, n)
			}
		}
	}
	r := rand.New(rand.NewSource(46))
	for range 20000 {
		check(someStamp(r, 3), 1+r.Intn(most), 1+r.Intn(most))
	}
}

// P4.5.

func TestTextAndParseAreThereAndBack(t *testing.T) {
	check := func(s []int) {
		if back, e := stamps.Parse(stamps.Text(s)); e != api.OK || !slices.Equal(back, s) {
			t.Fatalf("Parse(Text(%v)) = %v, %d", s, back, e)
		}
	}
	for _, s := range allLists(4, 1, 9, 10, 1<<32, most-1, most) {
		check(s)
	}
	r := rand.New(rand.NewSource(47))
	for range 100000 {
		check(someStamp(r, 4))
	}
}

// Rules R1, R5, R6 and R7.

func TestLongListsAndTexts(t *testing.T) {
	const n = 1 << 20
	long := slices.Repeat([]int{1}, n)
	longer, other := append(slices.Clone(long), 1), slices.Clone(long)
	other[n-1] = 2
	checkLong := func(a, b []int, want int, under bool) {
		if stamps.Compare(a, b) != want || stamps.Compare(b, a) != -want || stamps.Under(a, b) != under {
			t.Errorf("lists of %d and %d: Compare %d, Under %t", len(a), len(b), stamps.Compare(a, b), stamps.Under(a, b))
		}
		if later := stamps.Later(a, b); !slices.Equal(later, b) {
			t.Errorf("lists of %d and %d: Later has %d", len(a), len(b), len(later))
		}
	}
	checkLong(long, slices.Clone(long), 0, true)
	checkLong(long, longer, -1, true)
	checkLong(long, other, -1, false)
	checkLong(longer, other, -1, false)
	checkLong(nil, long, -1, true)
	if stamps.Valid(long) || stamps.Text(long) != strings.Repeat("1.", n-1)+"1" {
		t.Error("a long list is a stamp, or its text is wrong")
	}
	checkExtend(t, long[:5], 1)
	for _, s := range [][]int{long, longer, other} {
		got, e := stamps.Extend(s, 1)
		next, f := stamps.Next(s)
		if len(got) != 0 || e != api.ErrStamp || len(next) != 0 || f != api.ErrStamp {
			t.Errorf("a list of %d: Extend %d, Next %d", len(s), e, f)
		}
	}
	for _, part := range []string{"1", "0", ".", "1.", "-", "9", "\xff"} {
		for _, text := range []string{strings.Repeat(part, n), "1." + strings.Repeat(part, n), strings.Repeat(part, n) + ".1"} {
			if s, e := stamps.Parse(text); len(s) != 0 || e != api.ErrStamp {
				t.Errorf("Parse of a long text of %q = %v, %d", part, s, e)
			}
		}
	}
}

// withRoom: the list, with room behind its end in which something stands.
func withRoom(s []int) []int {
	room := append(slices.Clone(s), 71, 72, 73, 74)
	return room[:len(s)]
}

// whole: a list and the room behind its end.
func whole(s []int) []int { return s[:cap(s)] }

// fill writes over a list and over the room behind its end.
func fill(s []int, n int) {
	for i := range whole(s) {
		whole(s)[i] = n
	}
}

// shared are lists that all calls are tried on: stamps and others, and none
// that ends where its memory does.
func shared() [][]int {
	lists := [][]int{nil, {}, {5}, {5, 3}, {5, 3, 1}, {1, 1, 1, 1}, {1, 1, 1, 1, 1}, {0}, {-1, 2}, {most}, {most + 1}, {1, most}, {9, 9, 9, 9, 9, 9, 9}}
	for i, s := range lists {
		lists[i] = withRoom(s)
	}
	return lists
}

// making: all calls that answer a list, of two lists.
func making(a, b []int) [][]int {
	extended, _ := stamps.Extend(a, 3)
	refused, _ := stamps.Extend(b, 0)
	next, _ := stamps.Next(a)
	return [][]int{extended, refused, next, stamps.Later(a, b), stamps.Later(b, a), stamps.Later(a, a)}
}

func TestWhatIsHandedInStaysAsItIs(t *testing.T) {
	for _, a := range shared() {
		for _, b := range shared() {
			wantA, wantB := slices.Clone(whole(a)), slices.Clone(whole(b))
			making(a, b)
			stamps.Valid(a)
			stamps.Compare(a, b)
			stamps.Under(a, b)
			stamps.Text(a)
			if !slices.Equal(whole(a), wantA) || !slices.Equal(whole(b), wantB) {
				t.Fatalf("%v and %v became %v and %v", wantA, wantB, whole(a), whole(b))
			}
		}
	}
}

// Lists that lie in one memory, one behind the other, or over each other.
func TestListsOfOneMemory(t *testing.T) {
	memory := []int{5, 1, 5, 1, 2, 7, 7, 7}
	want := slices.Clone(memory)
	for i := range memory {
		for j := i; j <= len(memory); j++ {
			for k := range memory {
				a, b := memory[i:j], memory[k:]
				checkPair(t, a, b)
				checkPair(t, b, a)
				checkExtend(t, a, 9)
				checkNext(t, a)
				for _, s := range making(a, b) {
					fill(s, -7)
				}
				if !slices.Equal(memory, want) {
					t.Fatalf("%v became %v", want, memory)
				}
			}
		}
	}
}

func TestAnswersShareNoMemory(t *testing.T) {
	for _, a := range shared() {
		for _, b := range shared() {
			wantA, wantB := slices.Clone(whole(a)), slices.Clone(whole(b))
			answers := append(making(a, b), making(a, b)...)
			var want [][]int
			for _, s := range answers {
				want = append(want, slices.Clone(s))
			}
			for i, s := range answers {
				fill(s, -7-i)
			}
			for i, s := range answers {
				// Each still has what was written over it, and not over another.
				if slices.ContainsFunc(whole(s), func(n int) bool { return n != -7-i }) {
					t.Fatalf("of %v and %v: answer %d shares memory with another", wantA, wantB, i)
				}
			}
			if !slices.Equal(whole(a), wantA) || !slices.Equal(whole(b), wantB) {
				t.Fatalf("%v and %v share memory with an answer", wantA, wantB)
			}
			for i, s := range making(a, b) {
				if !slices.Equal(s, want[i]) || !slices.Equal(s, want[i+len(want)/2]) {
					t.Fatalf("of %v and %v: answer %d was %v, and is %v", wantA, wantB, i, want[i], s)
				}
			}
		}
	}
}

func TestAnswersStayWhenArgumentsChange(t *testing.T) {
	for _, a := range shared() {
		for _, b := range shared() {
			text, want := stamps.Text(a), textOf(a)
			answers := making(a, b)
			var before [][]int
			for _, s := range answers {
				before = append(before, slices.Clone(s))
			}
			oldA, oldB := slices.Clone(whole(a)), slices.Clone(whole(b))
			fill(a, 81)
			fill(b, 82)
			for i, s := range answers {
				if !slices.Equal(s, before[i]) {
					t.Fatalf("answer %d was %v, and became %v with its argument", i, before[i], s)
				}
			}
			if text != want {
				t.Fatalf("a text was %q, and became %q with its list", want, text)
			}
			copy(whole(a), oldA)
			copy(whole(b), oldB)
		}
	}
}

func TestParseAnswersNewMemory(t *testing.T) {
	for _, text := range []string{"-", "5", "5.1", "5.1.2", "1.1.1.1", "", "1.1.1.1.1"} {
		first, e := stamps.Parse(text)
		want := slices.Clone(first)
		second, _ := stamps.Parse(text)
		fill(first, -7)
		_ = append(first, -7)
		third, f := stamps.Parse(text)
		if !slices.Equal(second, want) || !slices.Equal(third, want) || e != f {
			t.Errorf("Parse(%q) = %v, then %v, where an answer %v was written over", text, second, third, want)
		}
		if slices.Contains(whole(second), -7) || slices.Contains(whole(third), -7) {
			t.Errorf("two answers of Parse(%q) share their spare room", text)
		}
	}
}
