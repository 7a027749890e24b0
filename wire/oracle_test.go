package wire_test

import (
	"encoding/binary"
	"hash/crc32"
	"math"
	"math/rand"
	"reflect"
	"regexp"
	"slices"
	"strings"
	"testing"

	"sublet/api"
	"sublet/wire"
)

// most is the greatest number that a counter may be, longest the longest term.
const (
	most    = 1099511627776
	longest = 1048576
)

// pathForm says what a path is.
var pathForm = regexp.MustCompile(`\A([a-z0-9]{1,6}(/[a-z0-9]{1,6}){0,3})?\z`)

// fieldsOf: the fields that a message's kind uses, by their names, in the order
// of the bytes; none, if there is no such kind or no such verb.
func fieldsOf(m api.Message) []string {
	var names string
	switch {
	case m.Kind == 1 && m.Verb == 1:
		names = "Boot Seq Low Verb Path Mode Term"
	case m.Kind == 1 && m.Verb == 2:
		names = "Boot Seq Low Verb Id Term Fresh"
	case m.Kind == 1 && m.Verb == 3:
		names = "Boot Seq Low Verb Id"
	case m.Kind == 2 && m.Code == 0:
		names = "Boot Seq Code Id Term Stamp"
	case m.Kind == 2:
		names = "Boot Seq Code"
	case m.Kind == 3:
		names = "Id Path Origin Number"
	case m.Kind == 4:
		names = "Id Origin Number"
	case m.Kind == 5:
		names = "Path Mode Stamp"
	default:
		return nil
	}
	return append([]string{"Kind", "From", "To"}, strings.Fields(names)...)
}

// allFields: the names of a message's fields.
func allFields() []string {
	var names []string
	for i := range reflect.TypeFor[api.Message]().NumField() {
		names = append(names, reflect.TypeFor[api.Message]().Field(i).Name)
	}
	return names
}

func in(n, from, to int) bool { return from <= n && n <= to }

// isStamp: does it have so many counters or more?
func isStamp(s []int, least int) bool {
	return in(len(s), least, 4) && !slices.ContainsFunc(s, func(n int) bool { return !in(n, 1, most) })
}

// isGood: is a field that is used as the document's table says?
func isGood(m api.Message, name string) bool {
	switch name {
	case "From":
		return in(m.From, 0, 7)
	case "To":
		return m.Kind == 5 && in(m.To, 8, 11) || m.Kind != 5 && in(m.To, 0, 7) && m.To != m.From
	case "Boot":
		return in(m.Boot, 1, most)
	case "Seq":
		return in(m.Seq, 1, most)
	case "Low":
		return in(m.Low, 1, m.Seq)
	case "Path":
		return pathForm.MatchString(m.Path)
	case "Mode":
		return in(int(m.Mode), 1, 2)
	case "Term":
		return in(m.Term, 4, longest) || m.Kind == 2 && m.Term == 0
	case "Id":
		return in(m.Id, 1, most)
	case "Code":
		return in(int(m.Code), 0, 99)
	case "Stamp":
		return m.Kind == 5 && isStamp(m.Stamp, 0) || m.Kind == 2 && m.Term == 0 && len(m.Stamp) == 0 || m.Kind == 2 && m.Term != 0 && isStamp(m.Stamp, 1)
	case "Origin":
		return in(m.Origin, 0, 7)
	case "Number":
		return in(m.Number, 1, most)
	}
	return true // Kind and Verb, by which the fields were found, and Fresh
}

// isZero: is a field zero? An empty list is.
func isZero(m api.Message, name string) bool {
	f := reflect.ValueOf(m).FieldByName(name)
	return f.IsZero() || f.Kind() == reflect.Slice && f.Len() == 0
}

// mayBe says which message may be in another way than the package does.
func mayBe(m api.Message) bool {
	used := fieldsOf(m)
	if used == nil {
		return false
	}
	for _, name := range allFields() {
		if slices.Contains(used, name) && !isGood(m, name) || !slices.Contains(used, name) && !isZero(m, name) {
			return false
		}
	}
	return true
}

// num: a number's form.
func num(n int) []byte { return binary.AppendUvarint(nil, uint64(n)) }

// text: a text's form.
func text(s string) []byte { return append(num(len(s)), s...) }

// pieces: the forms of a message's fields, one by one (a list's numbers are pieces of their own).
func pieces(m api.Message) [][]byte {
	var all [][]byte
	for _, name := range fieldsOf(m) {
		switch f := reflect.ValueOf(m).FieldByName(name); f.Kind() {
		case reflect.String:
			all = append(all, text(f.String()))
		case reflect.Bool:
			all = append(all, []byte{0})
			if f.Bool() {
				all[len(all)-1][0] = 1
			}
		case reflect.Slice:
			all = append(all, num(f.Len()))
			for i := range f.Len() {
				all = append(all, num(int(f.Index(i).Int())))
			}
		default:
			all = append(all, num(int(f.Int())))
		}
	}
	return all
}

// summed: bytes, and their checksum behind.
func summed(body []byte) []byte {
	return binary.LittleEndian.AppendUint32(slices.Clone(body), crc32.ChecksumIEEE(body))
}

// bytesOf: what Encode has to answer of a message that may be.
func bytesOf(m api.Message) []byte { return summed(slices.Concat(pieces(m)...)) }

// parse: numbers and texts out of bytes, by the names of the fields that they
// are to be; what is missing is zero.
type parse struct{ b []byte }

func (p *parse) num() int {
	n, size := binary.Uvarint(p.b)
	if size <= 0 || n > math.MaxInt {
		p.b = nil
		return 0
	}
	p.b = p.b[size:]
	return int(n)
}

func (p *parse) text() string {
	n := p.num()
	n = min(n, len(p.b))
	s := string(p.b[:n])
	p.b = p.b[n:]
	return s
}

func (p *parse) field(f reflect.Value) {
	switch f.Kind() {
	case reflect.String:
		f.SetString(p.text())
	case reflect.Bool:
		f.SetBool(p.num() != 0)
	case reflect.Slice:
		n := p.num()
		for range min(n, len(p.b)) {
			f.Set(reflect.Append(f, reflect.ValueOf(p.num())))
		}
	default:
		f.SetInt(int64(p.num()))
	}
}

// messageOf: what Decode has to answer, and whether it is OK.
func messageOf(b []byte) (api.Message, bool) {
	p := &parse{b}
	var m api.Message
	for i := 0; ; i++ {
		// What has been read of Kind, Verb and Code tells which fields follow.
		names := fieldsOf(m)
		if names == nil {
			names = strings.Fields("Kind From To Boot Seq Low Verb")
		}
		if i == len(names) {
			break
		}
		p.field(reflect.ValueOf(&m).Elem().FieldByName(names[i]))
	}
	if !mayBe(m) || !slices.Equal(bytesOf(m), b) {
		return api.Message{}, false
	}
	return m, true
}

// same says in another way than the package does whether two messages are one.
func same(a, b api.Message) bool {
	if len(a.Stamp) == 0 && len(b.Stamp) == 0 {
		a.Stamp, b.Stamp = nil, nil
	}
	return reflect.DeepEqual(a, b)
}

// with: a message, one field of which is another.
func with(m api.Message, name string, x any) api.Message {
	f := reflect.ValueOf(&m).Elem().FieldByName(name)
	f.Set(reflect.ValueOf(x).Convert(f.Type()))
	return m
}

// checkMessage holds Valid, Encode and Decode of one message against the oracle,
// and tells whether it may be.
func checkMessage(t *testing.T, m api.Message) bool {
	t.Helper()
	may := mayBe(m)
	if got := wire.Valid(m); got != may {
		t.Errorf("Valid(%+v) = %t", m, got)
	}
	b, e := wire.Encode(m)
	if !may {
		if b != nil || e != api.ErrKind {
			t.Errorf("Encode(%+v) = % x, %d", m, b, e)
		}
		return false
	}
	if e != api.OK || !slices.Equal(b, bytesOf(m)) {
		t.Errorf("Encode(%+v) = % x, %d, not % x", m, b, e, bytesOf(m))
	}
	if len(b) > 200 {
		t.Errorf("Encode(%+v) has %d bytes", m, len(b))
	}
	if back, e := wire.Decode(bytesOf(m)); e != api.OK || !same(back, m) {
		t.Errorf("Decode(% x) = %+v, %d, not %+v", bytesOf(m), back, e, m)
	}
	return true
}

// checkBytes holds Decode of some bytes against the oracle, and tells whether
// they are a message's.
func checkBytes(t *testing.T, b []byte) bool {
	t.Helper()
	want, ok := messageOf(b)
	m, e := wire.Decode(b)
	if !ok {
		if e != api.ErrForm || !reflect.DeepEqual(m, api.Message{}) {
			t.Errorf("Decode(% x) = %+v, %d", b, m, e)
		}
		return false
	}
	if e != api.OK || !same(m, want) {
		t.Errorf("Decode(% x) = %+v, %d, not %+v", b, m, e, want)
	}
	if again, e := wire.Encode(m); e != api.OK || !slices.Equal(again, b) {
		t.Errorf("Encode of Decode(% x) = % x, %d", b, again, e)
	}
	return true
}

// refuse: bytes that are no message's.
func refuse(t *testing.T, what string, b []byte) {
	t.Helper()
	if m, e := wire.Decode(b); e != api.ErrForm || !reflect.DeepEqual(m, api.Message{}) {
		t.Errorf("%s: Decode(% x) = %+v, %d", what, b, m, e)
	}
}

// samples: messages that may be, of each kind and verb, with every field that
// is used other than zero, where it can be.
func samples() []api.Message {
	return []api.Message{
		{Kind: api.Ask, From: 1, To: 3, Boot: 300, Seq: 20, Low: 13, Verb: api.Acquire, Path: "a/b2", Mode: api.Exclusive, Term: 300},
		{Kind: api.Ask, From: 7, To: 1, Boot: 1, Seq: 130, Low: 130, Verb: api.Renew, Id: 5, Term: 1000, Fresh: true},
		{Kind: api.Ask, From: 7, To: 1, Boot: 1, Seq: 130, Low: 1, Verb: api.Renew, Id: 500, Term: 4},
		{Kind: api.Ask, From: 2, To: 6, Boot: 9, Seq: 8, Low: 7, Verb: api.Release, Id: 65},
		{Kind: api.Reply, From: 3, To: 1, Boot: 300, Seq: 20, Id: 5, Term: 300, Stamp: []int{5, 1, 300}},
		{Kind: api.Reply, From: 3, To: 1, Boot: 300, Seq: 20, Id: 5},
		{Kind: api.Reply, From: 3, To: 1, Boot: 300, Seq: 20, Code: 60},
		{Kind: api.Recall, From: 1, To: 2, Id: 5, Path: "abc/d", Origin: 3, Number: 1048577},
		{Kind: api.Done, From: 2, To: 1, Id: 5, Origin: 3, Number: 1048577},
		{Kind: api.Op, From: 1, To: 8, Path: "a", Mode: api.Shared, Stamp: []int{2, 1}},
	}
}

// longestOnes: of each kind and verb the message with the most bytes.
func longestOnes() []api.Message {
	path := "abcdef/ghijkl/mnopqr/stuvwx"
	stamp := []int{most, most, most, most}
	return []api.Message{
		{Kind: api.Ask, From: 7, To: 6, Boot: most, Seq: most, Low: most, Verb: api.Acquire, Path: path, Mode: api.Exclusive, Term: longest},
		{Kind: api.Ask, From: 7, To: 6, Boot: most, Seq: most, Low: most, Verb: api.Renew, Id: most, Term: longest, Fresh: true},
		{Kind: api.Ask, From: 7, To: 6, Boot: most, Seq: most, Low: most, Verb: api.Release, Id: most},
		{Kind: api.Reply, From: 7, To: 6, Boot: most, Seq: most, Id: most, Term: longest, Stamp: stamp},
		{Kind: api.Reply, From: 7, To: 6, Boot: most, Seq: most, Id: most},
		{Kind: api.Reply, From: 7, To: 6, Boot: most, Seq: most, Code: 99},
		{Kind: api.Recall, From: 7, To: 6, Id: most, Path: path, Origin: 7, Number: most},
		{Kind: api.Done, From: 7, To: 6, Id: most, Origin: 7, Number: most},
		{Kind: api.Op, From: 7, To: 11, Path: path, Mode: api.Exclusive, Stamp: stamp},
	}
}

// shortestOnes: of each kind and verb the message with the fewest bytes.
func shortestOnes() []api.Message {
	return []api.Message{
		{Kind: api.Ask, To: 1, Boot: 1, Seq: 1, Low: 1, Verb: api.Acquire, Mode: api.Shared, Term: 4},
		{Kind: api.Ask, To: 1, Boot: 1, Seq: 1, Low: 1, Verb: api.Renew, Id: 1, Term: 4},
		{Kind: api.Ask, To: 1, Boot: 1, Seq: 1, Low: 1, Verb: api.Release, Id: 1},
		{Kind: api.Reply, To: 1, Boot: 1, Seq: 1, Id: 1, Term: 4, Stamp: []int{1}},
		{Kind: api.Reply, To: 1, Boot: 1, Seq: 1, Id: 1},
		{Kind: api.Reply, To: 1, Boot: 1, Seq: 1, Code: 1},
		{Kind: api.Recall, To: 1, Id: 1, Number: 1},
		{Kind: api.Done, To: 1, Id: 1, Number: 1},
		{Kind: api.Op, To: 8, Mode: api.Shared},
	}
}

// plenty: all the messages above.
func plenty() []api.Message { return slices.Concat(samples(), longestOnes(), shortestOnes()) }

// numbers: those at which any field's bounds lie, those next to them, and those
// at which numbers of fewer bits wrap round.
var numbers = []int{
	math.MinInt, math.MinInt + 1, -most, -1 << 32, -256, -2, -1,
	0, 1, 2, 3, 4, 5, 6, 7, 8, 9, 10, 11, 12, 13, 98, 99, 100, 101, 127, 128, 255, 256, 257, 258, 260, 264,
	longest - 1, longest, longest + 1, 1<<31 - 1, 1 << 31, 1 << 32, 1<<32 + 1, 1<<32 + 4, 1<<32 + 8,
	most - 1, most, most + 1, 2 * most, 1 << 62, math.MaxInt - 1, math.MaxInt,
}

// texts: paths, and texts that are none.
var texts = []string{
	"", "a", "0", "z9", "a/b", "a/b2/c", "a/b/c/d", "abcdef", "abcdef/ghijkl/mnopqr/stuvwx",
	"/", "a/", "/a", "a//b", "A", "a b", "abcdefg", "a/b/c/d/e", "a/bcdefgh", "a\x00", "a/b ", "ä", "-", "a.b", "\xff", "abcdef/ghijkl/mnopqr/stuvwxy",
	strings.Repeat("a", 127), strings.Repeat("a", 200), strings.Repeat("a/", 1000),
}

// lists: stamps, and lists that are none.
var lists = [][]int{
	nil, {}, {1}, {5}, {most}, {1, 1}, {5, 1, 2}, {4, 3, 2, 1}, {most, most, most, most},
	{1, 1, 1, 1, 1}, {5, 4, 3, 2, 1, 1}, {0}, {-1}, {most + 1}, {math.MaxInt}, {math.MinInt}, {0, 1}, {1, 0}, {1, 1, 1, 0}, {1, 1, 1, most + 1}, {1, -1, 1}, {0, 0, 0, 0},
	slices.Repeat([]int{1}, 127), slices.Repeat([]int{1}, 128), slices.Repeat([]int{1}, 260), slices.Repeat([]int{0}, 5),
}

// values: what the field of this name may be tried with.
func values(name string) []any {
	var all []any
	switch f, _ := reflect.TypeFor[api.Message]().FieldByName(name); f.Type.Kind() {
	case reflect.String:
		for _, s := range texts {
			all = append(all, s)
		}
	case reflect.Bool:
		all = []any{false, true}
	case reflect.Slice:
		for _, s := range lists {
			all = append(all, s)
		}
	default:
		for _, n := range numbers {
			all = append(all, n)
		}
	}
	return all
}

// someValue: of a field, often one that may be.
func someValue(dice *rand.Rand, name string) any {
	all := values(name)
	if _, ok := all[0].(int); ok && dice.Intn(2) == 0 {
		return 1 + dice.Intn(12)
	}
	return all[dice.Intn(len(all))]
}

// someMessage: any one that may be.
func someMessage(dice *rand.Rand) api.Message {
	counter := func() int { return 1 + dice.Intn(most)>>dice.Intn(41) }
	path := func() string {
		segs := make([]string, dice.Intn(5))
		for i := range segs {
			for range 1 + dice.Intn(6) {
				segs[i] += string("abcdefghijklmnopqrstuvwxyz0123456789"[dice.Intn(36)])
			}
		}
		return strings.Join(segs, "/")
	}
	stamp := make([]int, dice.Intn(5))
	for i := range stamp {
		stamp[i] = counter()
	}
	m := api.Message{Kind: api.Kind(1 + dice.Intn(5)), From: dice.Intn(8)}
	m.To = (m.From + 1 + dice.Intn(7)) % 8
	term := 4 + dice.Intn(longest-3)
	mode := api.Mode(1 + dice.Intn(2))
	switch m.Kind {
	case api.Ask:
		m.Boot, m.Seq, m.Verb = counter(), counter(), api.Verb(1+dice.Intn(3))
		m.Low = 1 + dice.Intn(m.Seq)
		switch m.Verb {
		case api.Acquire:
			m.Path, m.Mode, m.Term = path(), mode, term
		case api.Renew:
			m.Id, m.Term, m.Fresh = counter(), term, dice.Intn(2) == 0
		case api.Release:
			m.Id = counter()
		}
	case api.Reply:
		m.Boot, m.Seq, m.Code = counter(), counter(), api.Errno(dice.Intn(100)*dice.Intn(2))
		if m.Code == api.OK {
			m.Id = counter()
			if len(stamp) > 0 {
				m.Term, m.Stamp = term, stamp
			}
		}
	case api.Recall:
		m.Id, m.Path, m.Origin, m.Number = counter(), path(), dice.Intn(8), counter()
	case api.Done:
		m.Id, m.Origin, m.Number = counter(), dice.Intn(8), counter()
	case api.Op:
		m.To, m.Path, m.Mode, m.Stamp = 8+dice.Intn(4), path(), mode, stamp
	}
	return m
}
