package wire_test

import (
	"fmt"
	"math"
	"math/rand"
	"reflect"
	"slices"
	"strings"
	"testing"

	"sublet/api"
	"sublet/octets"
	"sublet/wire"
)

// The oracle of these tests could be wrong as the package is: here stands what
// the document says, by hand.

func TestFormsOfTheDocument(t *testing.T) {
	for _, c := range []struct {
		m    api.Message
		want string
	}{
		{api.Message{Kind: api.Ask, From: 1, Boot: 1, Seq: 2, Low: 1, Verb: api.Acquire, Path: "a/b", Mode: api.Exclusive, Term: 300}, "\x01\x01\x00\x01\x02\x01\x01\x03a/b\x02\xac\x02"},
		{api.Message{Kind: api.Ask, From: 1, Boot: 3, Seq: 2, Low: 1, Verb: api.Acquire, Mode: api.Shared, Term: 4}, "\x01\x01\x00\x03\x02\x01\x01\x00\x01\x04"},
		{api.Message{Kind: api.Ask, From: 1, To: 2, Boot: 4, Seq: 6, Low: 5, Verb: api.Renew, Id: 7, Term: 8, Fresh: true}, "\x01\x01\x02\x04\x06\x05\x02\x07\x08\x01"},
		{api.Message{Kind: api.Ask, From: 1, To: 2, Boot: 4, Seq: 6, Low: 5, Verb: api.Renew, Id: 7, Term: 8}, "\x01\x01\x02\x04\x06\x05\x02\x07\x08\x00"},
		{api.Message{Kind: api.Ask, From: 1, To: 2, Boot: 4, Seq: 6, Low: 5, Verb: api.Release, Id: 7}, "\x01\x01\x02\x04\x06\x05\x03\x07"},
		{api.Message{Kind: api.Reply, From: 0, To: 1, Boot: 1, Seq: 2, Id: 5, Term: 300, Stamp: []int{5}}, "\x02\x00\x01\x01\x02\x00\x05\xac\x02\x01\x05"},
		{api.Message{Kind: api.Reply, From: 0, To: 1, Boot: 1, Seq: 2, Id: 5, Term: 300, Stamp: []int{9, 300, 1, 2}}, "\x02\x00\x01\x01\x02\x00\x05\xac\x02\x04\x09\xac\x02\x01\x02"},
		{api.Message{Kind: api.Reply, From: 0, To: 1, Boot: 1, Seq: 2, Id: 5}, "\x02\x00\x01\x01\x02\x00\x05\x00\x00"},
		{api.Message{Kind: api.Reply, From: 0, To: 1, Boot: 1, Seq: 2, Code: api.ErrHeld}, "\x02\x00\x01\x01\x02\x3c"},
		{api.Message{Kind: api.Recall, From: 3, To: 1, Id: 5, Path: "a", Origin: 2, Number: 9}, "\x03\x03\x01\x05\x01a\x02\x09"},
		{api.Message{Kind: api.Done, From: 1, To: 3, Id: 5, Origin: 2, Number: 9}, "\x04\x01\x03\x05\x02\x09"},
		{api.Message{Kind: api.Op, From: 1, To: 8, Path: "a", Mode: api.Shared}, "\x05\x01\x08\x01a\x01\x00"},
		{api.Message{Kind: api.Op, From: 1, To: 11, Path: "a", Mode: api.Exclusive, Stamp: []int{3, 4}}, "\x05\x01\x0b\x01a\x02\x02\x03\x04"},
		{api.Message{Kind: api.Done, From: 1, Id: 1099511627776, Origin: 2, Number: 128}, "\x04\x01\x00\x80\x80\x80\x80\x80\x20\x02\x80\x01"},
	} {
		want := c.want + string(octets.Four(octets.Sum([]byte(c.want))))
		if !wire.Valid(c.m) {
			t.Errorf("Valid(%+v) is false", c.m)
		}
		if b, e := wire.Encode(c.m); e != api.OK || string(b) != want {
			t.Errorf("Encode(%+v) = % x, %d, not % x", c.m, b, e, want)
		}
		if m, e := wire.Decode([]byte(want)); e != api.OK || !reflect.DeepEqual(m, c.m) {
			t.Errorf("Decode(% x) = %+v, %d, not %+v", want, m, e, c.m)
		}
	}
}

// The checksum stands here in bytes too, lowest byte first.
func TestFormWithItsChecksum(t *testing.T) {
	m := api.Message{Kind: api.Op, From: 1, To: 8, Path: "a", Mode: api.Shared}
	want := "\x05\x01\x08\x01a\x01\x00\x8e\x9f\xca\xdc"
	if b, e := wire.Encode(m); e != api.OK || string(b) != want {
		t.Errorf("Encode(%+v) = % x, %d, not % x", m, b, e, want)
	}
	if back, e := wire.Decode([]byte(want)); e != api.OK || !reflect.DeepEqual(back, m) {
		t.Errorf("Decode(% x) = %+v, %d", want, back, e)
	}
}

func TestWhatMayNotBe(t *testing.T) {
	for _, m := range []api.Message{
		{},
		{Kind: 6, From: 1},
		{Kind: api.Done, From: 1, To: 1, Id: 5, Number: 1},
		{Kind: api.Done, From: 8, Id: 5, Number: 1},
		{Kind: api.Done, To: 8, Id: 5, Number: 1},
		{Kind: api.Done, From: -1, Id: 5, Number: 1},
		{Kind: api.Done, To: -1, Id: 5, Number: 1},
		{Kind: api.Done, From: 1, Id: 5, Number: 1, Path: "a"},
		{Kind: api.Done, From: 1, Id: 5, Number: 1, Origin: 8},
		{Kind: api.Done, From: 1, Id: 5, Number: 1, Origin: -1},
		{Kind: api.Done, From: 1, Id: 5},
		{Kind: api.Done, From: 1, Number: 1},
		{Kind: api.Recall, From: 1, Id: 5, Number: 1, Path: "a/"},
		{Kind: api.Recall, From: 1, Id: 5, Number: 1, Path: "a", Mode: api.Shared},
		{Kind: api.Ask, From: 1, Boot: 1, Seq: 2, Low: 3, Verb: api.Release, Id: 5},
		{Kind: api.Ask, From: 1, Boot: 1, Seq: 2, Low: 0, Verb: api.Release, Id: 5},
		{Kind: api.Ask, From: 1, Boot: 1, Seq: 2, Low: 1, Verb: 4, Id: 5},
		{Kind: api.Ask, From: 1, Boot: 1, Seq: 2, Low: 1},
		{Kind: api.Ask, From: 1, Boot: 1, Seq: 2, Low: 1, Verb: api.Acquire, Path: "a", Mode: 3, Term: 4},
		{Kind: api.Ask, From: 1, Boot: 1, Seq: 2, Low: 1, Verb: api.Acquire, Path: "a", Mode: api.Shared, Term: 3},
		{Kind: api.Ask, From: 1, Boot: 1, Seq: 2, Low: 1, Verb: api.Acquire, Path: "a", Mode: api.Shared, Term: 4, Fresh: true},
		{Kind: api.Ask, From: 1, Boot: 1, Seq: 2, Low: 1, Verb: api.Acquire, Path: "a", Mode: api.Shared, Term: 4, Id: 5},
		{Kind: api.Ask, From: 1, Boot: 1, Seq: 2, Low: 1, Verb: api.Renew, Id: 5, Term: 4, Mode: api.Shared},
		{Kind: api.Ask, From: 1, Boot: 1, Seq: 2, Low: 1, Verb: api.Release, Id: 5, Term: 4},
		{Kind: api.Reply, To: 1, Boot: 1, Seq: 2, Code: 60, Id: 5},
		{Kind: api.Reply, To: 1, Boot: 1, Seq: 2, Code: 60, Term: 4, Stamp: []int{1}},
		{Kind: api.Reply, To: 1, Boot: 1, Seq: 2, Code: 100},
		{Kind: api.Reply, To: 1, Boot: 1, Seq: 2, Code: -1},
		{Kind: api.Reply, To: 1, Boot: 1, Seq: 2, Id: 5, Term: 300},
		{Kind: api.Reply, To: 1, Boot: 1, Seq: 2, Id: 5, Stamp: []int{1}},
		{Kind: api.Reply, To: 1, Boot: 1, Seq: 2, Id: 5, Term: 300, Stamp: []int{1, 1, 1, 1, 1}},
		{Kind: api.Reply, To: 1, Boot: 1, Seq: 2, Id: 5, Term: 3, Stamp: []int{1}},
		{Kind: api.Reply, To: 1, Boot: 1, Seq: 2, Id: 5, Term: -4},
		{Kind: api.Reply, To: 1, Boot: 1, Seq: 2, Term: 300, Stamp: []int{1}},
		{Kind: api.Reply, To: 1, Boot: 1, Seq: 2},
		{Kind: api.Reply, To: 1, Boot: 1, Seq: 2, Low: 1, Id: 5, Term: 300, Stamp: []int{1}},
		{Kind: api.Op, From: 1, To: 7, Path: "a", Mode: api.Shared},
		{Kind: api.Op, From: 1, To: 12, Path: "a", Mode: api.Shared},
		{Kind: api.Op, From: 8, To: 9, Path: "a", Mode: api.Shared},
		{Kind: api.Op, From: 1, To: 8, Path: "a"},
		{Kind: api.Op, From: 1, To: 8, Path: "a", Mode: api.Shared, Stamp: []int{0}},
		{Kind: api.Op, From: 1, To: 8, Path: "a", Mode: api.Shared, Stamp: []int{1}, Id: 1},
	} {
		if wire.Valid(m) {
			t.Errorf("Valid(%+v) is true", m)
		}
		if b, e := wire.Encode(m); e != api.ErrKind || b != nil {
			t.Errorf("Encode(%+v) = % x, %d", m, b, e)
		}
	}
}

// P6.1: which message may be.

// Every field of every message is tried with every number, text and list, one
// at a time: those that a kind uses and those that it doesn't.
func TestEachFieldAtItsEdges(t *testing.T) {
	good, bad := 0, 0
	for _, m := range plenty() {
		for _, name := range allFields() {
			for _, x := range values(name) {
				if checkMessage(t, with(m, name, x)) {
					good++
				} else {
					bad++
				}
			}
		}
	}
	if good < 1000 || bad < 1000 {
		t.Errorf("only %d messages that may be, and %d that may not", good, bad)
	}
}

func TestFieldsThatAKindDoesNotUse(t *testing.T) {
	other := api.Message{Kind: 1, From: 1, To: 1, Boot: 1, Seq: 1, Low: 1, Verb: 1, Path: "a", Mode: 1, Term: 4, Id: 1, Fresh: true, Code: 1, Stamp: []int{1}, Origin: 1, Number: 1}
	for _, m := range plenty() {
		for _, name := range allFields() {
			if slices.Contains(fieldsOf(m), name) {
				continue
			}
			x := with(m, name, reflect.ValueOf(other).FieldByName(name).Interface())
			if wire.Valid(x) {
				t.Errorf("Valid(%+v) is true with %s", x, name)
			}
			if b, e := wire.Encode(x); e != api.ErrKind || b != nil {
				t.Errorf("Encode(%+v) = % x, %d with %s", x, b, e, name)
			}
		}
	}
}

// An empty list and none are one, where a kind uses it and where it doesn't.
func TestAnEmptyListIsNone(t *testing.T) {
	for _, m := range plenty() {
		if len(m.Stamp) > 0 {
			continue
		}
		for _, s := range [][]int{nil, {}, make([]int, 0, 9)} {
			x := with(m, "Stamp", s)
			if b, e := wire.Encode(x); !wire.Valid(x) || e != api.OK || !slices.Equal(b, bytesOf(m)) {
				t.Errorf("%+v, with %#v: Encode % x, %d", m, s, b, e)
			}
		}
	}
}

func TestKindsAndVerbs(t *testing.T) {
	ends := []int{math.MinInt, -256, -1, 0, 1, 2, 3, 4, 5, 6, 7, 257, 1<<32 + 1, math.MaxInt}
	for _, m := range plenty() {
		for _, kind := range ends {
			for _, verb := range ends {
				checkMessage(t, with(with(m, "Kind", kind), "Verb", verb))
			}
		}
	}
}

func TestAddresses(t *testing.T) {
	for _, m := range samples() {
		good := 0
		for _, from := range numbers {
			for _, to := range numbers {
				if checkMessage(t, with(with(m, "From", from), "To", to)) {
					good++
				}
			}
		}
		want := 8 * 7
		if m.Kind == api.Op {
			want = 8 * 4
		}
		if good != want {
			t.Errorf("%+v: %d ways to go, not %d", m, good, want)
		}
	}
}

func TestCounters(t *testing.T) {
	for _, m := range plenty() {
		for _, name := range []string{"Boot", "Seq", "Id", "Number"} {
			used := slices.Contains(fieldsOf(m), name)
			for _, n := range []int{math.MinInt, -1, 0, 1, 2, most - 1, most, most + 1, 2 * most, math.MaxInt} {
				x := with(m, name, n)
				if x.Kind == api.Ask && name == "Seq" {
					x.Low = 1
				}
				want := used && n >= 1 && n <= 1<<40 || !used && n == 0
				if wire.Valid(x) != want {
					t.Errorf("Valid(%+v) is %t", x, !want)
				}
				checkMessage(t, x)
			}
		}
	}
}

func TestLowIsFromOneToSeq(t *testing.T) {
	for _, m := range plenty() {
		for _, seq := range []int{0, 1, 2, 9, 127, 128, most, most + 1, math.MaxInt} {
			for _, low := range []int{math.MinInt, -1, 0, 1, 2, seq - 1, seq, seq + 1, math.MaxInt} {
				x := with(with(m, "Seq", seq), "Low", low)
				if m.Kind == api.Ask && wire.Valid(x) != (seq >= 1 && seq <= most && low >= 1 && low <= seq) {
					t.Errorf("Valid(%+v) is %t", x, wire.Valid(x))
				}
				checkMessage(t, x)
			}
		}
	}
}

func TestCodes(t *testing.T) {
	plain := api.Message{Kind: api.Reply, To: 1, Boot: 1, Seq: 2}
	given := with(with(with(plain, "Id", 5), "Term", 9), "Stamp", []int{5})
	for _, code := range []int{math.MinInt, -100, -1, 0, 1, 60, 81, 98, 99, 100, 101, 127, 128, 256, 1 << 32, math.MaxInt} {
		refusal := code >= 1 && code <= 99
		for _, c := range []struct {
			m    api.Message
			want bool
		}{
			{plain, refusal},
			{given, code == 0},
			{with(plain, "Id", 5), code == 0},
			{with(plain, "Term", 9), false},
			{with(plain, "Stamp", []int{5}), false},
			{with(plain, "Stamp", []int{}), refusal},
			{with(given, "Id", 0), false},
			{with(given, "Term", 0), false},
			{with(given, "Stamp", []int{}), false},
		} {
			m := with(c.m, "Code", code)
			if wire.Valid(m) != c.want {
				t.Errorf("Valid(%+v) is %t", m, !c.want)
			}
			checkMessage(t, m)
		}
	}
}

func TestTermsAndStampsOfReplies(t *testing.T) {
	plain := api.Message{Kind: api.Reply, To: 1, Boot: 1, Seq: 2, Id: 5}
	good := 0
	for _, term := range numbers {
		for _, stamp := range lists {
			if checkMessage(t, with(with(plain, "Term", term), "Stamp", stamp)) {
				good++
			}
		}
	}
	if good < 100 {
		t.Errorf("only %d may be", good)
	}
}

func TestTermsOfAsks(t *testing.T) {
	for _, m := range samples() {
		if m.Kind != api.Ask {
			continue
		}
		for _, term := range []int{math.MinInt, -4, -1, 0, 1, 3, 4, 5, longest, longest + 1, 1 << 32, math.MaxInt} {
			x := with(m, "Term", term)
			want := term >= 4 && term <= 1<<20
			if m.Verb == api.Release {
				want = term == 0
			}
			if wire.Valid(x) != want {
				t.Errorf("Valid(%+v) is %t", x, !want)
			}
		}
	}
}

// Any messages, of which some may be, and some nearly.
func TestAnyMessages(t *testing.T) {
	dice := rand.New(rand.NewSource(61))
	names := allFields()
	count := [2]int{}
	for range 60000 {
		m := someMessage(dice)
		for range dice.Intn(4) {
			name := names[dice.Intn(len(names))]
			m = with(m, name, someValue(dice, name))
		}
		if checkMessage(t, m) {
			count[1]++
		} else {
			count[0]++
		}
	}
	if min(count[0], count[1]) < 10000 {
		t.Errorf("too few that may be, or that may not: %d", count)
	}
}

// P6.1: what is decoded.

// Each byte of a message is every other byte, one at a time, with a checksum of
// their own behind, so that the fields alone tell whether it may be.
func TestBytesOfOtherNumbers(t *testing.T) {
	good := 0
	for _, m := range plenty() {
		b, _ := wire.Encode(m)
		body := b[:len(b)-4]
		for i := range body {
			for c := range 256 {
				x := slices.Clone(body)
				x[i] = byte(c)
				if checkBytes(t, summed(x)) {
					good++
				}
			}
		}
	}
	if good < 1000 {
		t.Errorf("only %d are messages", good)
	}
}

func TestAnyBytes(t *testing.T) {
	dice := rand.New(rand.NewSource(62))
	good := 0
	for range 60000 {
		body := slices.Concat(pieces(someMessage(dice))...)
		for range dice.Intn(4) {
			at := dice.Intn(len(body) + 1)
			switch c := byte(dice.Intn(256) >> dice.Intn(9)); dice.Intn(3) {
			case 0:
				body = slices.Insert(body, at, c)
			case 1:
				body = slices.Delete(body, min(at, len(body)-1), min(at+dice.Intn(2), len(body)))
			case 2:
				body[min(at, len(body)-1)] = c
			}
			if len(body) == 0 {
				body = []byte{1}
			}
		}
		if checkBytes(t, summed(body)) {
			good++
		}
		checkBytes(t, body)
	}
	if good < 10000 {
		t.Errorf("only %d are messages", good)
	}
}

// All bytes of few numbers, with their checksums: no message is so short.
func TestShortBytes(t *testing.T) {
	var each func(body []byte, left int)
	each = func(body []byte, left int) {
		refuse(t, "short", body)
		refuse(t, "short and summed", summed(body))
		if left == 0 {
			return
		}
		for _, c := range []byte{0, 1, 2, 3, 4, 5, 6, 8, 127, 128, 255} {
			each(append(slices.Clone(body), c), left-1)
		}
	}
	each(nil, 4)
}

// wider: a number's form with a byte more, as it may not be.
func wider(form []byte) []byte {
	x := slices.Clone(form)
	x[len(x)-1] |= 128
	return append(x, 0)
}

func TestNumbersNotInTheirOneForm(t *testing.T) {
	for _, m := range plenty() {
		all := pieces(m)
		used := fieldsOf(m)
		for i := range all {
			x := slices.Clone(all)
			if i < len(used) && used[i] == "Path" {
				n := num(len(m.Path))
				x[i] = append(wider(n), m.Path...)
			} else {
				x[i] = wider(x[i])
			}
			refuse(t, fmt.Sprintf("piece %d wider", i), summed(slices.Concat(x...)))
			for _, form := range [][]byte{
				slices.Repeat([]byte{255}, 9), append(slices.Repeat([]byte{128}, 9), 1), slices.Repeat([]byte{128}, 20),
				append(slices.Repeat([]byte{255}, 8), 127), {128}, {255, 0}, {},
			} {
				x[i] = form
				checkBytes(t, summed(slices.Concat(x...)))
			}
		}
	}
}

func TestTextsNotInTheirOneForm(t *testing.T) {
	for _, m := range plenty() {
		at := slices.Index(fieldsOf(m), "Path")
		if at < 0 {
			continue
		}
		x := pieces(m)
		for _, n := range []int{0, 1, 2, 3, 4, 5, 6, 26, 27, 28, 40, 127, 128, 200, 201, 1 << 20, most, math.MaxInt} {
			x[at] = append(num(n), m.Path...)
			ok := checkBytes(t, summed(slices.Concat(x...)))
			if ok != (n == len(m.Path)) {
				t.Errorf("a text of %q with %d bytes is taken: %t", m.Path, n, ok)
			}
		}
		for _, s := range texts {
			x[at] = text(s)
			ok := checkBytes(t, summed(slices.Concat(x...)))
			if ok != pathForm.MatchString(s) {
				t.Errorf("the path %q is taken: %t", s, ok)
			}
		}
	}
}

func TestFreshIsOneOrNought(t *testing.T) {
	for _, m := range plenty() {
		if m.Verb != api.Renew {
			continue
		}
		x := pieces(m)
		for _, n := range []int{0, 1, 2, 3, 127, 128, 129, 256, 257, 1<<32 + 1, math.MaxInt} {
			x[len(x)-1] = num(n)
			back, e := wire.Decode(summed(slices.Concat(x...)))
			if n > 1 && (e != api.ErrForm || back.Fresh) {
				t.Errorf("Fresh %d: %+v, %d", n, back, e)
			}
			if n <= 1 && (e != api.OK || back.Fresh != (n == 1)) {
				t.Errorf("Fresh %d: %+v, %d", n, back, e)
			}
		}
	}
}

// A stamp that says another count than it has counters.
func TestCountsOfStamps(t *testing.T) {
	for _, m := range plenty() {
		at := slices.Index(fieldsOf(m), "Stamp")
		if at < 0 {
			continue
		}
		x := pieces(m)[:at]
		for _, n := range []int{0, 1, 2, 3, 4, 5, 6, 127, 128, 256, 260, 1 << 20, 1 << 32, 1<<32 + 1, 1<<40 + 1, 1 << 62, math.MaxInt} {
			for has := range 7 {
				body := slices.Concat(slices.Concat(x...), num(n), slices.Repeat([]byte{1}, has))
				ok := checkBytes(t, summed(body))
				if ok && n != has || ok && n > 4 {
					t.Errorf("a stamp of %d counters with %d is taken", n, has)
				}
			}
		}
	}
}

func TestMoreBytesBehind(t *testing.T) {
	for _, m := range plenty() {
		b, _ := wire.Encode(m)
		body := b[:len(b)-4]
		for _, more := range [][]byte{{0}, {1}, {255}, {0, 0}, {1, 2, 3, 4}, b, b[len(b)-4:], body, make([]byte, 100), make([]byte, 200), make([]byte, 1000)} {
			refuse(t, "more behind", slices.Concat(b, more))
			refuse(t, "more behind, summed", summed(slices.Concat(b, more)))
			refuse(t, "more ahead of the checksum", slices.Concat(body, more, b[len(b)-4:]))
			refuse(t, "more ahead of a checksum of all", summed(slices.Concat(body, more)))
			refuse(t, "more in front", slices.Concat(more, b))
		}
	}
}

func TestNoBytes(t *testing.T) {
	refuse(t, "nil", nil)
	refuse(t, "none", []byte{})
	refuse(t, "a checksum of none", summed(nil))
	for n := range 300 {
		refuse(t, "noughts", make([]byte, n))
		refuse(t, "noughts, summed", summed(make([]byte, n)))
		refuse(t, "ones", slices.Repeat([]byte{255}, n))
		refuse(t, "ones, summed", summed(slices.Repeat([]byte{255}, n)))
	}
}

func TestChecksums(t *testing.T) {
	for _, m := range plenty() {
		b, _ := wire.Encode(m)
		body, sum := b[:len(b)-4], b[len(b)-4:]
		refuse(t, "no checksum", body)
		refuse(t, "a checksum of noughts", append(slices.Clone(body), 0, 0, 0, 0))
		refuse(t, "a checksum turned about", append(slices.Clone(body), sum[3], sum[2], sum[1], sum[0]))
		refuse(t, "a checksum with all bits turned", append(slices.Clone(body), ^sum[0], ^sum[1], ^sum[2], ^sum[3]))
		refuse(t, "a checksum of another", append(slices.Clone(body), octets.Four(octets.Sum(b))...))
		refuse(t, "a checksum ahead", slices.Concat(sum, body))
	}
}

// P6.1: Same.

func TestSameTellsEveryField(t *testing.T) {
	all := plenty()
	all = append(all, api.Message{}, api.Message{Kind: -1, From: 99, Stamp: []int{0, -1, 5, 5, 5}}, api.Message{Kind: 1, Verb: 9, Fresh: true, Number: math.MinInt})
	for _, m := range all {
		if !wire.Same(m, m) {
			t.Errorf("Same of %+v and itself is false", m)
		}
		for _, name := range allFields() {
			for _, x := range values(name) {
				other := with(m, name, x)
				if want := same(m, other); wire.Same(m, other) != want || wire.Same(other, m) != want {
					t.Errorf("Same(%+v, %+v) is %t", m, other, !want)
				}
			}
		}
	}
}

func TestSameOfLists(t *testing.T) {
	a, b := samples()[0], samples()[9]
	for _, s := range append(slices.Clone(lists), []int{5, 1, 3}, []int{2, 1, 5}, []int{5, 1}) {
		for _, u := range append(slices.Clone(lists), []int{5, 1, 3}, []int{2, 1, 5}, []int{5, 1}) {
			for _, m := range []api.Message{a, b, {}} {
				if want := slices.Equal(s, u); wire.Same(with(m, "Stamp", s), with(m, "Stamp", u)) != want {
					t.Errorf("Same with %v and %v is %t", s, u, !want)
				}
			}
		}
	}
}

func TestSameOfAnyTwo(t *testing.T) {
	dice := rand.New(rand.NewSource(63))
	names := allFields()
	for range 30000 {
		a := someMessage(dice)
		b := a
		for range dice.Intn(3) {
			name := names[dice.Intn(len(names))]
			b = with(b, name, someValue(dice, name))
		}
		b.Stamp = slices.Clone(b.Stamp)
		if wire.Same(a, b) != same(a, b) {
			t.Errorf("Same(%+v, %+v) is %t", a, b, wire.Same(a, b))
		}
	}
}

// P6.2.

func TestThereAndBack(t *testing.T) {
	dice := rand.New(rand.NewSource(64))
	for range 30000 {
		m := someMessage(dice)
		b, e := wire.Encode(m)
		if e != api.OK {
			t.Fatalf("Encode(%+v): %d", m, e)
		}
		back, e := wire.Decode(b)
		if e != api.OK || !wire.Same(back, m) || !same(back, m) {
			t.Fatalf("Decode of Encode(%+v) = %+v, %d", m, back, e)
		}
		again, e := wire.Encode(back)
		if e != api.OK || !slices.Equal(again, b) {
			t.Fatalf("Encode of Decode(% x) = % x, %d", b, again, e)
		}
	}
}

func TestUnlikeMessagesHaveUnlikeBytes(t *testing.T) {
	dice := rand.New(rand.NewSource(65))
	byBytes := map[string]api.Message{}
	all := plenty()
	for _, m := range plenty() {
		for _, name := range allFields() {
			for _, x := range values(name) {
				all = append(all, with(m, name, x))
			}
		}
	}
	for range 30000 {
		all = append(all, someMessage(dice))
	}
	for _, m := range all {
		b, e := wire.Encode(m)
		if e != api.OK {
			continue
		}
		if other, ok := byBytes[string(b)]; ok && !same(other, m) {
			t.Errorf("%+v and %+v are both % x", m, other, b)
		}
		byBytes[string(b)] = m
	}
	if len(byBytes) < 30000 {
		t.Errorf("only %d messages", len(byBytes))
	}
}

// P6.3.

func TestTheLongestMessages(t *testing.T) {
	want := []int{58, 36, 32, 54, 28, 20, 48, 20, 61}
	for i, m := range longestOnes() {
		b, e := wire.Encode(m)
		if e != api.OK || len(b) != want[i] || len(b) > api.MaxPacket {
			t.Errorf("Encode(%+v): %d bytes, %d, not %d bytes", m, len(b), e, want[i])
		}
		// With no other value of any field there are more.
		for _, name := range allFields() {
			for _, x := range values(name) {
				other := with(m, name, x)
				if b, e := wire.Encode(other); e == api.OK && len(b) > want[i] && len(fieldsOf(other)) == len(fieldsOf(m)) {
					t.Errorf("Encode(%+v): %d bytes, more than %d", other, len(b), want[i])
				}
			}
		}
	}
}

func TestNoMessageIsLonger(t *testing.T) {
	dice := rand.New(rand.NewSource(67))
	for range 30000 {
		m := someMessage(dice)
		if b, e := wire.Encode(m); e != api.OK || len(b) > 61 {
			t.Errorf("Encode(%+v): %d bytes, %d", m, len(b), e)
		}
	}
}

// P6.4.

func TestOneByteTurned(t *testing.T) {
	for _, m := range plenty() {
		b, e := wire.Encode(m)
		if e != api.OK {
			t.Fatalf("Encode(%+v): %d", m, e)
		}
		for i, was := range b {
			for c := range 256 {
				if b[i] = byte(c); b[i] != was {
					refuse(t, "one byte turned", b)
				}
			}
			b[i] = was
		}
		if back, e := wire.Decode(b); e != api.OK || !same(back, m) {
			t.Errorf("Decode(% x) = %+v, %d", b, back, e)
		}
	}
}

func TestCutShort(t *testing.T) {
	for _, m := range plenty() {
		b, _ := wire.Encode(m)
		for n := range b {
			refuse(t, "cut short", b[:n])
			refuse(t, "cut short, with nothing behind", slices.Clip(slices.Clone(b[:n])))
		}
		body := b[:len(b)-4]
		for n := range body {
			if _, ok := messageOf(summed(body[:n])); ok {
				t.Errorf("% x has a beginning that is a message", body)
			}
			refuse(t, "cut short, with its own checksum", summed(body[:n]))
		}
	}
}

// What stands behind the end of the list that is handed in is no part of it.
func TestSpareRoomIsNotDecoded(t *testing.T) {
	for _, m := range plenty() {
		b := bytesOf(m)
		more := append(slices.Clone(b), 7, 7, 7)
		refuse(t, "more behind", more)
		if back, e := wire.Decode(more[:len(b)]); e != api.OK || !same(back, m) {
			t.Errorf("Decode(% x) = %+v, %d", more[:len(b)], back, e)
		}
		refuse(t, "cut short, with the rest in the spare room", b[:len(b)-1])
	}
}

// R1.

func TestLongBytesEnd(t *testing.T) {
	const long = 1 << 26
	for _, c := range []byte{0, 1, 127, 128, 255} {
		b := append(bytesOf(samples()[0]), slices.Repeat([]byte{c}, long)...)
		for _, x := range [][]byte{b, b[len(b)-long:]} {
			if m, e := wire.Decode(x); e != api.ErrForm || !reflect.DeepEqual(m, api.Message{}) {
				t.Errorf("%d bytes: %+v, %d", len(x), m, e)
			}
		}
	}
}

func TestLongFieldsEnd(t *testing.T) {
	const long = 1 << 22
	for _, m := range plenty() {
		for _, x := range []api.Message{
			with(m, "Path", strings.Repeat("a", long)),
			with(m, "Path", strings.Repeat("a/", long)),
			with(m, "Stamp", slices.Repeat([]int{1}, long)),
			with(m, "Stamp", make([]int, long)),
		} {
			if _, e := wire.Encode(x); e != api.ErrKind || wire.Valid(x) {
				t.Errorf("a message of kind %d with a long field is taken: %d", m.Kind, e)
			}
			if !wire.Same(x, x) || wire.Same(x, m) {
				t.Errorf("Same of a message of kind %d with a long field", m.Kind)
			}
		}
	}
}

// R5, R6 and R7.

// withRoom: a copy with spare room behind its end, filled with a mark.
func withRoom[T any](list []T, mark T) []T {
	x := make([]T, len(list), len(list)+300)
	copy(x, list)
	for i := len(x); i < cap(x); i++ {
		x[:cap(x)][i] = mark
	}
	return x
}

func TestWhatIsHandedInStaysAsItIs(t *testing.T) {
	for _, m := range plenty() {
		for _, s := range append(slices.Clone(lists), m.Stamp) {
			x := with(m, "Stamp", withRoom(s, 77))
			before := slices.Clone(x.Stamp[:cap(x.Stamp)])
			wire.Valid(x)
			wire.Encode(x)
			wire.Same(x, m)
			wire.Same(m, x)
			if !slices.Equal(x.Stamp[:cap(x.Stamp)], before) {
				t.Errorf("the stamp %v has become %v", before, x.Stamp[:cap(x.Stamp)])
			}
		}
		b := bytesOf(m)
		for n := range len(b) + 1 {
			x := withRoom(b[:n], 7)
			before := slices.Clone(x[:cap(x)])
			wire.Decode(x)
			if !slices.Equal(x[:cap(x)], before) {
				t.Errorf("the bytes % x have become % x", before, x[:cap(x)])
			}
		}
	}
}

// fill: all of a list, its spare room too.
func fill[T any](list []T, x T) {
	list = list[:cap(list)]
	for i := range list {
		list[i] = x
	}
}

func TestEncodeAnswersNewMemory(t *testing.T) {
	for _, m := range plenty() {
		m.Stamp = withRoom(m.Stamp, 77)
		first, _ := wire.Encode(m)
		second, _ := wire.Encode(m)
		fill(first, 255)
		if !slices.Equal(second, bytesOf(m)) {
			t.Errorf("Encode(%+v) shares its bytes: % x", m, second)
		}
		if third, _ := wire.Encode(m); !slices.Equal(third, bytesOf(m)) {
			t.Errorf("Encode(%+v) keeps its bytes: % x", m, third)
		}
		stay := bytesOf(m)
		fill(m.Stamp, 1)
		if !slices.Equal(second, stay) {
			t.Errorf("the bytes go with the stamp: % x", second)
		}
	}
}

func TestDecodeAnswersNewMemory(t *testing.T) {
	for _, m := range plenty() {
		b := withRoom(bytesOf(m), 7)
		first, _ := wire.Decode(b)
		second, _ := wire.Decode(b)
		fill(first.Stamp, 77)
		if !same(second, m) {
			t.Errorf("Decode(% x) shares its stamp: %+v", b, second)
		}
		third, _ := wire.Decode(b)
		fill(b, 1)
		if !same(second, m) || !same(third, m) {
			t.Errorf("a message goes with its bytes: %+v, %+v, not %+v", second, third, m)
		}
	}
}

func TestAskedTwiceIsToldTwice(t *testing.T) {
	dice := rand.New(rand.NewSource(66))
	for range 3000 {
		m := someMessage(dice)
		b, _ := wire.Encode(m)
		other := someMessage(dice)
		wire.Valid(other)
		wire.Encode(other)
		wire.Decode(bytesOf(other))
		wire.Decode(b[:dice.Intn(len(b))])
		if again, e := wire.Encode(m); e != api.OK || !slices.Equal(again, b) || !wire.Valid(m) {
			t.Errorf("Encode(%+v) = % x, and then % x, %d", m, b, again, e)
		}
		if back, e := wire.Decode(b); e != api.OK || !same(back, m) {
			t.Errorf("Decode(% x) = %+v, %d", b, back, e)
		}
	}
}
