package record

import (
	"bytes"
	"errors"
	"math"
	"slices"
	"strings"
	"testing"

	"stockade/api"
	"stockade/fault"
	"stockade/name"
)

// noPlace: of an error that says none.
const noPlace = -1

// is tells whether e is an error of that number at that place; of 0 whether there is none.
func is(e error, code api.Errno, at int) bool {
	if code == 0 {
		return e == nil
	}
	place, placed := fault.Place(e)
	if !placed {
		place = noPlace
	}
	return errors.Is(e, code) && fault.Code(e) == code && place == at
}

// placeOf: of an error, or noPlace.
func placeOf(e error) int {
	if at, is := fault.Place(e); is {
		return at
	}
	return noPlace
}

// same: are all fields, and all bytes, the same?
func same(r, s api.Record) bool {
	return r.Name == s.Name && r.Type == s.Type && r.Class == s.Class && r.Ttl == s.Ttl && r.Addr == s.Addr && r.Target == s.Target && bytes.Equal(r.Data, s.Data)
}

// copied: r with bytes of its own.
func copied(r api.Record) api.Record {
	r.Data = bytes.Clone(r.Data)
	return r
}

// v4, v6: addresses that begin with these bytes.
func v4(b ...byte) (a api.Addr) {
	copy(a.B[:], b)
	return a
}

func v6(b ...byte) (a api.Addr) {
	a.V6 = true
	copy(a.B[:], b)
	return a
}

// whole6: an address of version 6, no two bytes of which are the same.
func whole6() api.Addr {
	return v6(counting(32, 16)...)
}

// counting: so many bytes, each one more than the one ahead of it.
func counting(from, n int) []byte {
	b := make([]byte, n)
	for i := range b {
		b[i] = byte(from + i)
	}
	return b
}

// high, low: the bytes of a number.
func high(v int) byte { return byte(v / 256) }
func low(v int) byte  { return byte(v % 256) }

// two, four: v as so many bytes.
func two(v int) []byte     { return []byte{high(v), low(v)} }
func four(v uint32) []byte { return slices.Concat(two(int(v/65_536)), two(int(v%65_536))) }

// host: a name's bytes, right or not.
func host(s string) []byte {
	var b []byte
	if s != "" {
		for _, label := range strings.Split(s, ".") {
			b = append(append(b, byte(len(label))), label...)
		}
	}
	return append(b, 0)
}

// ask: a question's bytes, right or not.
func ask(q api.Question) []byte {
	return slices.Concat(host(q.Name), two(q.Type), two(q.Class))
}

// tail: what stands behind a record's name.
func tail(kind, class int, left uint32, n int, data ...byte) []byte {
	return slices.Concat(two(kind), two(class), four(left), two(n), data)
}

// plain: a tail whose length is as great as what is there.
func plain(kind int, data ...byte) []byte {
	return tail(kind, 1, 5, len(data), data...)
}

// told: a record's bytes, by what its type has.
func told(r api.Record) []byte {
	data := r.Data
	switch r.Type {
	case 1:
		data = r.Addr.B[:4]
	case 28:
		data = r.Addr.B[:16]
	case 5:
		data = host(r.Target)
	}
	return slices.Concat(host(r.Name), tail(r.Type, r.Class, r.Ttl, len(data), data...))
}

// random: so many bytes that hang on the seed alone.
func random(seed *uint32, n int) []byte {
	b := make([]byte, n)
	for i := range b {
		*seed = *seed*1_664_525 + 1_013_904_223
		b[i] = byte(*seed >> 24)
	}
	return b
}

// answer of ReadQuestion (in r's first three fields) or ReadRecord, as the promise says.
type answer struct {
	r     api.Record
	end   int
	code  api.Errno
	place int
}

// wrong: an answer of an error alone.
func wrong(code api.Errno, place int) answer {
	return answer{code: code, place: place}
}

// asIs: an answer of somebody else's error.
func asIs(e error) answer {
	return wrong(fault.Code(e), placeOf(e))
}

// expectedQuestion: what the promise says of ReadQuestion, sentence by sentence.
func expectedQuestion(b []byte, at int) answer {
	s, at, e := name.Read(b, at)
	if e != nil {
		return asIs(e)
	}
	if at+2 > len(b) {
		return wrong(api.ErrShort, at)
	}
	if at+4 > len(b) {
		return wrong(api.ErrShort, at+2)
	}
	return answer{r: api.Record{Name: s, Type: 256*int(b[at]) + int(b[at+1]), Class: 256*int(b[at+2]) + int(b[at+3])}, end: at + 4}
}

// expectedRecord: what the promise says of ReadRecord, sentence by sentence.
func expectedRecord(b []byte, at int) answer {
	w := expectedQuestion(b, at)
	if w.code != 0 {
		return w
	}
	at = w.end
	if at+4 > len(b) {
		return wrong(api.ErrShort, at)
	}
	for _, c := range b[at : at+4] {
		w.r.Ttl = 256*w.r.Ttl + uint32(c)
	}
	at += 4
	if at+2 > len(b) {
		return wrong(api.ErrShort, at)
	}
	n := 256*int(b[at]) + int(b[at+1])
	if at+2+n > len(b) {
		return wrong(api.ErrShort, at)
	}
	w.end = at + 2 + n
	switch w.r.Type {
	case 1:
		if n != 4 {
			return wrong(api.ErrLength, at)
		}
		w.r.Addr = v4(b[at+2 : w.end]...)
	case 28:
		if n != 16 {
			return wrong(api.ErrLength, at)
		}
		w.r.Addr = v6(b[at+2 : w.end]...)
	case 5:
		s, end, e := name.Read(b, at+2)
		if e != nil {
			return asIs(e)
		}
		if end != w.end {
			return wrong(api.ErrLength, at)
		}
		w.r.Target = s
	default:
		w.r.Data = bytes.Clone(b[at+2 : w.end])
	}
	return w
}

// checkQuestion: ReadQuestion at that place answers this, and leaves what it was given.
func checkQuestion(t *testing.T, b []byte, at int, w answer) {
	t.Helper()
	before := bytes.Clone(b)
	q, end, e := ReadQuestion(b, at)
	if !is(e, w.code, w.place) || w.code == 0 && (q != api.Question{Name: w.r.Name, Type: w.r.Type, Class: w.r.Class} || end != w.end) {
		t.Fatalf("P13.1: ReadQuestion of %d bytes (%v ..) at %d: %+v, %d, %v at %d; want %+v", len(b), b[:min(len(b), 40)], at, q, end, e, placeOf(e), w)
	}
	if e != nil && (q != api.Question{} || end != 0) {
		t.Fatalf("R5: ReadQuestion at %d: %+v, %d beside %v", at, q, end, e)
	}
	if !bytes.Equal(b, before) {
		t.Fatalf("R3: ReadQuestion at %d changed the bytes that were handed in", at)
	}
}

// checkRecord: ReadRecord at that place answers this, and leaves what it was given.
func checkRecord(t *testing.T, b []byte, at int, w answer) {
	t.Helper()
	before := bytes.Clone(b)
	r, end, e := ReadRecord(b, at)
	if !is(e, w.code, w.place) || w.code == 0 && (!same(r, w.r) || end != w.end) {
		t.Fatalf("P13.2: ReadRecord of %d bytes (%v ..) at %d: %+v, %d, %v at %d; want %+v", len(b), b[:min(len(b), 40)], at, r, end, e, placeOf(e), w)
	}
	if e != nil && (!same(r, api.Record{}) || end != 0) {
		t.Fatalf("R5: ReadRecord at %d: %+v, %d beside %v", at, r, end, e)
	}
	if !bytes.Equal(b, before) {
		t.Fatalf("R3: ReadRecord at %d changed the bytes that were handed in", at)
	}
}

// checkRead holds both calls at that place against the promise.
func checkRead(t *testing.T, b []byte, at int) {
	t.Helper()
	checkQuestion(t, b, at, expectedQuestion(b, at))
	checkRecord(t, b, at, expectedRecord(b, at))
}

// checkPlaces: the same at each place, and about both ends.
func checkPlaces(t *testing.T, b []byte) {
	t.Helper()
	for at := -2; at < len(b)+3; at++ {
		checkRead(t, b, at)
	}
}

// rightType: what the promise says of a Type and a Class.
func rightType(kind, class int) bool {
	return kind >= 0 && kind <= 65_535 && class >= 0 && class <= 65_535
}

// expectedRight: what the promise says of RightRecord, type by type.
func expectedRight(r api.Record) bool {
	if !name.Right(r.Name) || !rightType(r.Type, r.Class) {
		return false
	}
	switch r.Type {
	case 1:
		return r.Addr == v4(r.Addr.B[:4]...) && r.Target == "" && len(r.Data) == 0
	case 28:
		return r.Addr.V6 && r.Target == "" && len(r.Data) == 0
	case 5:
		return r.Addr == api.Addr{} && name.Right(r.Target) && len(r.Data) == 0
	}
	return r.Addr == api.Addr{} && r.Target == "" && len(r.Data) <= 1_000
}

// checkRight: RightRecord and WriteRecord say that r is right; what is written is read.
func checkRight(t *testing.T, r api.Record) {
	t.Helper()
	before, want := copied(r), told(r)
	b, e := WriteRecord(r)
	if !RightRecord(r) || e != nil || !bytes.Equal(b, want) {
		t.Fatalf("P13.3: RightRecord of %+v: %v, WriteRecord: %v, %v; want true, %v", r, RightRecord(r), b, e, want)
	}
	if !same(r, before) {
		t.Fatalf("R3: what was handed in, %+v, is %+v now", before, r)
	}
	checkRecord(t, b, 0, answer{r: before, end: len(b)})
	for _, ahead := range []int{1, 17} {
		m := slices.Concat(counting(7, ahead), b, counting(191, 9))
		checkRecord(t, m, ahead, answer{r: before, end: ahead + len(b)})
	}
}

// checkNone: RightRecord and WriteRecord say that r is not right.
func checkNone(t *testing.T, r api.Record) {
	t.Helper()
	before := copied(r)
	b, e := WriteRecord(r)
	if RightRecord(r) || !is(e, api.ErrArg, noPlace) || len(b) != 0 {
		t.Fatalf("P13.3: RightRecord of %+v: %v, WriteRecord: %v, %v at %d; want false, none, %d", r, RightRecord(r), b, e, placeOf(e), api.ErrArg)
	}
	if !same(r, before) {
		t.Fatalf("R3: what was handed in, %+v, is %+v now", before, r)
	}
}

// checkWhether: as the promise says.
func checkWhether(t *testing.T, r api.Record) {
	t.Helper()
	if expectedRight(r) {
		checkRight(t, r)
	} else {
		checkNone(t, r)
	}
}

// checkAsked: q is right or not, as that says; WriteQuestion says so; what is written is read.
func checkAsked(t *testing.T, q api.Question, right bool) {
	t.Helper()
	b, e := WriteQuestion(q)
	if !right {
		if !is(e, api.ErrArg, noPlace) || len(b) != 0 {
			t.Fatalf("P13.3: WriteQuestion of %+v: %v, %v at %d; want none, %d", q, b, e, placeOf(e), api.ErrArg)
		}
		return
	}
	if e != nil || !bytes.Equal(b, ask(q)) {
		t.Fatalf("P13.3: WriteQuestion of %+v: %v, %v; want %v", q, b, e, ask(q))
	}
	w := answer{r: api.Record{Name: q.Name, Type: q.Type, Class: q.Class}}
	for _, ahead := range []int{0, 1, 17} {
		w.end = ahead + len(b)
		m := slices.Concat(counting(7, ahead), b)
		checkQuestion(t, m, ahead, w)
		checkQuestion(t, append(m, counting(191, 9)...), ahead, w)
	}
}

// rights: records of each type that are as they may be.
func rights() []api.Record {
	return []api.Record{
		{},
		{Name: "a", Type: 16, Class: 1, Ttl: 5, Data: []byte{1, 2, 3}},
		{Name: "a.b", Type: 2, Class: 3, Ttl: 86_400},
		{Name: "www.example", Type: 65_535, Class: 65_535, Ttl: 1<<32 - 1, Data: counting(0, 1_000)},
		{Name: "a", Type: 4, Data: []byte{1, 2, 3, 4}},
		{Name: "a", Type: 27, Data: counting(1, 16)},
		{Name: "a", Type: 29, Data: counting(1, 16)},
		{Name: "a", Type: 6, Data: []byte{0}},
		{Name: "a", Type: 256 + 1, Data: []byte{192, 0}},
		{Name: "a", Type: 1, Class: 1, Ttl: 5, Addr: v4(10, 1, 2, 3)},
		{Type: 1},
		{Name: "b", Type: 1, Class: 255, Addr: v4(255, 255, 255, 255)},
		{Name: "a", Type: 28, Class: 1, Ttl: 5, Addr: whole6()},
		{Type: 28, Addr: v6()},
		{Name: "b", Type: 28, Class: 2, Addr: v6(10, 1, 2, 3)},
		{Name: "a", Type: 5, Class: 1, Ttl: 5, Target: "b.example"},
		{Type: 5},
		{Name: "a", Type: 5, Class: 4, Ttl: 1 << 31, Target: longest()},
		{Name: longest(), Type: 5, Target: "a"},
	}
}

// longest: a name that is just so long, as it is written.
func longest() string {
	s := strings.Repeat("x", 63)
	return strings.Join([]string{s, s, s, s[:61]}, ".")
}

// nones: names that are none.
func nones() []string {
	return []string{".", "A", "aB.c", "a.", ".a", "a..b", "a b", "é", "\x00", "a.\x7f", "x" + longest(), strings.Repeat("x", 64), strings.Repeat("a.", 127) + "a"}
}

func TestExample(t *testing.T) {
	checkQuestion(t, []byte{0, 0, 1, 0, 1}, 0, answer{r: api.Record{Type: 1, Class: 1}, end: 5})
}

func TestQuestionByHand(t *testing.T) {
	for _, r := range []struct {
		b    []byte
		at   int
		want answer
	}{
		{[]byte{1, 'a', 0, 0, 28, 0, 1}, 0, answer{r: api.Record{Name: "a", Type: 28, Class: 1}, end: 7}},
		{[]byte{1, 'A', 2, 'b', 'C', 0, 1, 2, 3, 4, 9}, 0, answer{r: api.Record{Name: "a.bc", Type: 258, Class: 772}, end: 10}},
		{[]byte{7, 1, 'a', 0, 255, 255, 128, 0}, 1, answer{r: api.Record{Name: "a", Type: 65_535, Class: 32_768}, end: 8}},
		{[]byte{1, 'a', 0, 192, 0, 0, 5, 0, 3}, 3, answer{r: api.Record{Name: "a", Type: 5, Class: 3}, end: 9}},
		{[]byte{1, 'a', 0, 1, 'w', 192, 0, 0, 0, 0, 0, 1}, 3, answer{r: api.Record{Name: "w.a"}, end: 11}},
		{nil, 0, wrong(api.ErrShort, 0)},
		{[]byte{0}, 0, wrong(api.ErrShort, 1)},
		{[]byte{0, 0, 1}, 0, wrong(api.ErrShort, 3)},
		{[]byte{0, 0, 1, 0, 1}, -1, wrong(api.ErrArg, noPlace)},
		{[]byte{0, 0, 1, 0, 1}, 5, wrong(api.ErrShort, 5)},
		{[]byte{0, 0, 1, 0, 1}, 9, wrong(api.ErrShort, 9)},
		{[]byte{64, 0, 1, 0, 1}, 0, wrong(api.ErrLabel, 0)},
		{[]byte{192, 0, 0, 1, 0, 1}, 0, wrong(api.ErrPointer, 0)},
	} {
		checkQuestion(t, r.b, r.at, r.want)
		checkRead(t, r.b, r.at)
	}
}

func TestRecordByHand(t *testing.T) {
	for _, r := range []struct {
		b    []byte
		at   int
		want answer
	}{
		{[]byte{1, 'a', 0, 0, 1, 0, 1, 0, 0, 0, 5, 0, 4, 10, 1, 2, 3}, 0, answer{r: api.Record{Name: "a", Type: 1, Class: 1, Ttl: 5, Addr: v4(10, 1, 2, 3)}, end: 17}},
		{[]byte{0, 0, 28, 0, 1, 1, 2, 3, 4, 0, 16, 32, 33, 34, 35, 36, 37, 38, 39, 40, 41, 42, 43, 44, 45, 46, 47, 9}, 0, answer{r: api.Record{Type: 28, Class: 1, Ttl: 16_909_060, Addr: whole6()}, end: 27}},
		{[]byte{9, 9, 1, 'X', 0, 0, 5, 0, 3, 255, 255, 255, 255, 0, 3, 1, 'Y', 0}, 2, answer{r: api.Record{Name: "x", Type: 5, Class: 3, Ttl: 1<<32 - 1, Target: "y"}, end: 18}},
		{[]byte{1, 'x', 0, 192, 0, 0, 5, 0, 1, 0, 0, 0, 0, 0, 4, 1, 'y', 192, 0}, 3, answer{r: api.Record{Name: "x", Type: 5, Class: 1, Target: "y.x"}, end: 19}},
		{[]byte{0, 0, 16, 0, 0, 128, 0, 0, 0, 0, 2, 1, 'a'}, 0, answer{r: api.Record{Type: 16, Ttl: 1 << 31, Data: []byte{1, 'a'}}, end: 13}},
		{[]byte{0, 0, 2, 0, 1, 0, 0, 0, 0, 0, 0, 9}, 0, answer{r: api.Record{Type: 2, Class: 1}, end: 11}},
		{[]byte{0, 0, 1, 0, 1, 0, 0, 0, 0, 0, 3, 10, 1, 2, 3}, 0, wrong(api.ErrLength, 9)},
		{[]byte{0, 0, 1, 0, 1, 0, 0, 0, 0, 0, 4, 10, 1, 2}, 0, wrong(api.ErrShort, 9)},
		{[]byte{0, 0, 5, 0, 1, 0, 0, 0, 0, 0, 0, 0}, 0, wrong(api.ErrLength, 9)},
		{[]byte{0, 0, 5, 0, 1, 0, 0, 0, 0, 0, 0}, 0, wrong(api.ErrShort, 11)},
		{[]byte{0, 0, 2, 0, 1, 0, 0, 0, 0, 0}, 0, wrong(api.ErrShort, 9)},
		{[]byte{0, 0, 2, 0, 1, 0, 0, 0}, 0, wrong(api.ErrShort, 5)},
		{nil, 0, wrong(api.ErrShort, 0)},
		{nil, -1, wrong(api.ErrArg, noPlace)},
	} {
		checkRecord(t, r.b, r.at, r.want)
		checkRead(t, r.b, r.at)
	}
}

// A message's pieces, one behind the other, read at each place: where one begins, and where none does.
func TestAnyPlace(t *testing.T) {
	b := ask(api.Question{Name: "www.example", Type: 1, Class: 1})
	for _, r := range rights()[:16] {
		b = append(b, told(r)...)
	}
	b = slices.Concat(b, []byte{3, 'f', 't', 'p', 192, 4}, plain(5, 1, 'x', 192, 0), []byte{192, 0}, plain(1, 1, 2, 3, 4))
	checkPlaces(t, b)
}

func TestFarPlaces(t *testing.T) {
	b := told(rights()[9])
	for _, at := range []int{-1, -2, -100, math.MinInt32, math.MinInt + 1, math.MinInt} {
		checkQuestion(t, b, at, wrong(api.ErrArg, noPlace))
		checkRecord(t, b, at, wrong(api.ErrArg, noPlace))
		checkQuestion(t, nil, at, wrong(api.ErrArg, noPlace))
		checkRecord(t, nil, at, wrong(api.ErrArg, noPlace))
	}
	for _, at := range []int{len(b), len(b) + 1, 70_000, math.MaxInt32, math.MaxInt - 1, math.MaxInt} {
		checkQuestion(t, b, at, wrong(api.ErrShort, at))
		checkRecord(t, b, at, wrong(api.ErrShort, at))
		checkQuestion(t, nil, at, wrong(api.ErrShort, at))
		checkRecord(t, nil, at, wrong(api.ErrShort, at))
	}
}

// What is missing, by how many bytes are there: from the first number on, till the next one, it is told at that place.
func missing(n int, starts ...int) int {
	place := starts[0]
	for _, s := range starts {
		if n >= s {
			place = s
		}
	}
	return place
}

func TestCutQuestion(t *testing.T) {
	// The labels are at 0, 4 and 7, the end of the name at 9, what is behind it at 10.
	b := ask(api.Question{Name: "www.ab.c", Type: 258, Class: 772})
	for n := range b {
		place := missing(n, 0, 4, 7, 9, 10, 12)
		checkQuestion(t, b[:n], 0, wrong(api.ErrShort, place))
		for _, ahead := range []int{1, 5, 300} {
			checkQuestion(t, slices.Concat(make([]byte, ahead), b[:n]), ahead, wrong(api.ErrShort, ahead+place))
		}
	}
	checkQuestion(t, b, 0, answer{r: api.Record{Name: "www.ab.c", Type: 258, Class: 772}, end: 14})
}

// The same of a name that is a pointer, or ends with one.
func TestCutBehindPointers(t *testing.T) {
	for _, r := range []struct {
		lead   []byte
		name   string
		starts []int
	}{
		{[]byte{192, 0}, "a", []int{3, 5, 7}},
		{[]byte{1, 'b', 192, 0}, "b.a", []int{3, 5, 7, 9}},
	} {
		b := slices.Concat([]byte{1, 'a', 0}, r.lead, []byte{0, 16, 0, 1})
		for n := 3; n < len(b); n++ {
			checkQuestion(t, b[:n], 3, wrong(api.ErrShort, missing(n, r.starts...)))
		}
		checkQuestion(t, b, 3, answer{r: api.Record{Name: r.name, Type: 16, Class: 1}, end: len(b)})
		b = append(b, 0, 0, 0, 5, 0, 1, 7)
		ends := append(slices.Clone(r.starts), len(b)-7, len(b)-3)
		for n := 3; n < len(b); n++ {
			checkRecord(t, b[:n], 3, wrong(api.ErrShort, missing(n, ends...)))
		}
		checkRecord(t, b, 3, answer{r: api.Record{Name: r.name, Type: 16, Class: 1, Ttl: 5, Data: []byte{7}}, end: len(b)})
	}
}

func TestCutRecord(t *testing.T) {
	for _, r := range rights() {
		if r.Name != "a" {
			continue
		}
		b := told(r)
		for n := range b {
			// The label is at 0, its name's end at 2, the type at 3, the class at 5, the ttl at 7, the length at 11.
			place := missing(n, 0, 2, 3, 5, 7, 11)
			checkRecord(t, b[:n], 0, wrong(api.ErrShort, place))
			for _, ahead := range []int{1, 5, 300} {
				checkRecord(t, slices.Concat(make([]byte, ahead), b[:n]), ahead, wrong(api.ErrShort, ahead+place))
			}
		}
		checkRecord(t, b, 0, answer{r: r, end: len(b)})
	}
}

// A name that is none: name's error, whatever is behind it.
func TestNoName(t *testing.T) {
	wide := strings.Repeat("x", 63)
	for _, r := range []struct {
		b     []byte
		code  api.Errno
		place int
	}{
		{[]byte{64}, api.ErrLabel, 0}, {[]byte{191}, api.ErrLabel, 0}, {[]byte{1, ' '}, api.ErrLabel, 0}, {[]byte{1, 'a', 1, '.', 0}, api.ErrLabel, 2}, {[]byte{1, 'a', 128}, api.ErrLabel, 2},
		{[]byte{192, 0}, api.ErrPointer, 0}, {[]byte{192, 5}, api.ErrPointer, 0}, {[]byte{1, 'a', 192, 0}, api.ErrPointer, 2}, {[]byte{1, 'a', 192, 2}, api.ErrPointer, 2}, {[]byte{255, 255}, api.ErrPointer, 0},
		{host(strings.Join([]string{wide, wide, wide, wide}, ".")), api.ErrName, 192},
	} {
		for _, behind := range [][]byte{nil, {0}, {0, 1}, {0, 1, 0, 1}, plain(1, 1, 2, 3, 4), plain(5, 0), tail(1, 1, 0, 9)} {
			b := slices.Concat(r.b, behind)
			checkQuestion(t, b, 0, wrong(r.code, r.place))
			checkRecord(t, b, 0, wrong(r.code, r.place))
		}
	}
}

// A name that leads back to one ahead: the place is that behind the first pointer.
func TestNameThatLeadsBack(t *testing.T) {
	ahead := host("example.org") // the second label is at 8
	for _, r := range []struct {
		b    []byte
		name string
	}{
		{[]byte{192, 0}, "example.org"}, {[]byte{192, 8}, "org"}, {[]byte{192, 12}, ""}, {[]byte{1, 'a', 192, 8}, "a.org"}, {[]byte{3, 'W', 'w', 'w', 192, 0}, "www.example.org"}, {[]byte{1, 'a', 1, 'b', 192, 12}, "a.b"},
	} {
		for _, fill := range []int{0, 1, 200} {
			b := slices.Concat(ahead, make([]byte, fill), r.b)
			at, behind := len(ahead)+fill, len(b)
			q := append(b, 0, 1, 0, 3)
			checkQuestion(t, q, at, answer{r: api.Record{Name: r.name, Type: 1, Class: 3}, end: behind + 4})
			m := append(b, plain(1, 10, 1, 2, 3)...)
			checkRecord(t, m, at, answer{r: api.Record{Name: r.name, Type: 1, Class: 1, Ttl: 5, Addr: v4(10, 1, 2, 3)}, end: behind + 14})
			m = append(b, plain(5, r.b...)...)
			checkRecord(t, m, at, answer{r: api.Record{Name: r.name, Type: 5, Class: 1, Ttl: 5, Target: r.name}, end: behind + 10 + len(r.b)})
			// And by way of one that leads back itself.
			m = append(m, 192, byte(at), 0, 9, 0, 8)
			checkQuestion(t, m, len(m)-6, answer{r: api.Record{Name: r.name, Type: 9, Class: 8}, end: len(m)})
		}
	}
}

// bounds: numbers of two bytes at which something may turn.
func bounds() []int {
	return []int{0, 1, 2, 4, 5, 6, 16, 27, 28, 29, 127, 128, 255, 256, 257, 261, 284, 1_281, 7_168, 32_767, 32_768, 65_534, 65_535}
}

func TestTypesAndClasses(t *testing.T) {
	for v := range 65_536 {
		for _, q := range []api.Question{{Name: "a", Type: v, Class: 1}, {Name: "b", Type: 1, Class: v}} {
			got, end, e := ReadQuestion(ask(q), 0)
			if got != q || end != 7 || e != nil {
				t.Fatalf("P13.1: ReadQuestion of what %+v is written as: %+v, %d, %v", q, got, end, e)
			}
		}
	}
	for _, kind := range bounds() {
		for _, class := range bounds() {
			checkAsked(t, api.Question{Name: "a", Type: kind, Class: class}, true)
			checkAsked(t, api.Question{Type: kind, Class: class}, true)
		}
	}
}

// Types that have no form of their own have their bytes as they are, whatever these are, and whatever the class.
func TestOtherTypes(t *testing.T) {
	for kind := range 65_536 {
		for _, data := range [][]byte{nil, {9}, {0, 1, 192, 0}, counting(100, 16)} {
			if kind == 1 || kind == 5 || kind == 28 {
				continue
			}
			b := slices.Concat([]byte{1, 'a', 0}, plain(kind, data...))
			r, end, e := ReadRecord(b, 0)
			if e != nil || end != len(b) || !same(r, api.Record{Name: "a", Type: kind, Class: 1, Ttl: 5, Data: data}) {
				t.Fatalf("P13.2: ReadRecord of type %d, %v: %+v, %d, %v", kind, data, r, end, e)
			}
		}
	}
	for _, kind := range bounds() {
		for _, class := range bounds() {
			for _, data := range [][]byte{nil, {0}, {1, 'a', 0}, {1, 2, 3, 4}, {192, 0}, counting(1, 16), counting(1, 17)} {
				checkRead(t, slices.Concat([]byte{1, 'a', 0}, tail(kind, class, 0, len(data), data...)), 0)
			}
		}
	}
}

// No bound but its length's own is set to what is read; what is read need not be right, then.
func TestMuchData(t *testing.T) {
	for _, n := range []int{0, 1, 255, 256, 257, 999, 1_000, 1_001, 4_000, 65_534, 65_535} {
		data := make([]byte, n)
		for i := range data {
			data[i] = byte(i*7 + i/256)
		}
		b := slices.Concat([]byte{0}, plain(16, data...))
		checkRecord(t, b, 0, answer{r: api.Record{Type: 16, Class: 1, Ttl: 5, Data: data}, end: len(b)})
		checkRecord(t, append(b, 1, 2, 3), 0, answer{r: api.Record{Type: 16, Class: 1, Ttl: 5, Data: data}, end: len(b)})
		checkRecord(t, b[:len(b)-1], 0, wrong(api.ErrShort, 9))
		checkWhether(t, api.Record{Type: 16, Class: 1, Ttl: 5, Data: data})
	}
}

func TestTtls(t *testing.T) {
	for _, left := range []uint32{0, 1, 4, 5, 255, 256, 65_535, 65_536, 86_400, 86_401, 1<<24 - 1, 1 << 24, 1<<31 - 1, 1 << 31, 0x01020304, 0xfffefdfc, 1<<32 - 1} {
		for _, r := range rights() {
			r.Ttl = left
			checkRight(t, r)
		}
	}
}

// A length that is greater than what is there, and one that is as great, and smaller: of each type.
func TestLengths(t *testing.T) {
	for _, kind := range bounds() {
		for there := range 24 {
			data := counting(65, there)
			for _, n := range []int{0, there - 1, there, there + 1, there + 2, 4, 16, 256 + there, 512, 65_535} {
				if n < 0 {
					continue
				}
				b := slices.Concat([]byte{1, 'x', 0}, tail(kind, 1, 0, n, data...))
				if n > there {
					checkRecord(t, b, 0, wrong(api.ErrShort, 11))
				}
				checkRead(t, b, 0)
				checkRead(t, append([]byte{7, 7}, b...), 2)
			}
		}
	}
}

func TestAddressLengths(t *testing.T) {
	for _, r := range []struct{ kind, size int }{{1, 4}, {28, 16}} {
		for n := range 300 {
			data := counting(3, n)
			for _, behind := range [][]byte{nil, {1}, counting(50, 300)} {
				b := slices.Concat([]byte{1, 'a', 0}, plain(r.kind, data...), behind)
				if n != r.size {
					checkRecord(t, b, 0, wrong(api.ErrLength, 11))
					checkRecord(t, append(make([]byte, 5), b...), 5, wrong(api.ErrLength, 16))
					continue
				}
				want := api.Record{Name: "a", Type: r.kind, Class: 1, Ttl: 5, Addr: v4(data...)}
				if r.kind == 28 {
					want.Addr = v6(data...)
				}
				checkRecord(t, b, 0, answer{r: want, end: 13 + n})
			}
		}
	}
}

// Where a target ends: ahead of the length's end, behind it, and just there.
func TestTargetLengths(t *testing.T) {
	ahead := host("example.org")
	for _, r := range []struct {
		target []byte
		name   string
	}{
		{[]byte{0}, ""}, {host("y"), "y"}, {host("y.example"), "y.example"}, {[]byte{192, 0}, "example.org"}, {[]byte{192, 8}, "org"}, {[]byte{192, 12}, ""}, {[]byte{1, 'Y', 192, 0}, "y.example.org"}, {host(longest()), longest()},
	} {
		for n := range len(r.target) + 40 {
			at := len(ahead)
			b := slices.Concat(ahead, []byte{192, 0}, tail(5, 1, 7, n, r.target...), make([]byte, 50))
			if n != len(r.target) {
				checkRecord(t, b, at, wrong(api.ErrLength, at+10))
				continue
			}
			w := answer{r: api.Record{Name: "example.org", Type: 5, Class: 1, Ttl: 7, Target: r.name}, end: at + 12 + n}
			checkRecord(t, b, at, w)
			checkRecord(t, b[:w.end], at, w)
			checkRecord(t, b[:w.end-1], at, wrong(api.ErrShort, at+10))
		}
	}
}

// A target that leads back to what stands ahead of it: the record's own name, its label in the same bytes, or a name ahead of both.
func TestTargetThatLeadsBack(t *testing.T) {
	b := slices.Concat([]byte{1, 'q', 0, 2, 'n', 'm', 192, 0}, tail(5, 1, 5, 4, 1, 't', 192, 3))
	checkRecord(t, b, 3, answer{r: api.Record{Name: "nm.q", Type: 5, Class: 1, Ttl: 5, Target: "t.nm.q"}, end: 22})
	for _, r := range []struct {
		to     byte
		target string
		code   api.Errno
	}{{0, "q", 0}, {2, "", 0}, {3, "nm.q", 0}, {6, "q", 0}, {8, "", 0}, {10, "", 0}, {18, "", api.ErrPointer}, {20, "", api.ErrPointer}, {21, "", api.ErrPointer}, {99, "", api.ErrPointer}} {
		c := slices.Concat(b[:18], []byte{192, r.to})
		c[17] = 2
		if r.code != 0 {
			checkRecord(t, c, 3, wrong(r.code, 18))
		} else {
			checkRecord(t, c, 3, answer{r: api.Record{Name: "nm.q", Type: 5, Class: 1, Ttl: 5, Target: r.target}, end: 20})
		}
	}
}

// A target that is no name: name's error, at its own place, ahead of what is wrong with the length.
func TestNoTarget(t *testing.T) {
	for _, r := range []struct {
		target []byte
		code   api.Errno
		place  int // from the target's on
	}{
		{[]byte{64}, api.ErrLabel, 0}, {[]byte{191, 0}, api.ErrLabel, 0}, {[]byte{1, ' ', 0}, api.ErrLabel, 0}, {[]byte{1, 'a', 1, '.', 0}, api.ErrLabel, 2}, {[]byte{1, 'a', 100}, api.ErrLabel, 2},
		{[]byte{255, 255}, api.ErrPointer, 0}, {[]byte{1, 'a', 192, 255}, api.ErrPointer, 2}, {slices.Concat(bytes.Repeat([]byte{1, 'a'}, 128), []byte{0}), api.ErrName, 254},
	} {
		for _, ahead := range []int{0, 9} {
			for n := range len(r.target) + 5 {
				b := slices.Concat(make([]byte, ahead), host("a"), tail(5, 1, 5, n, r.target...), []byte{0, 0, 0, 0, 0})
				checkRecord(t, b, ahead, wrong(r.code, ahead+13+r.place))
			}
		}
	}
	// One that has no end in all the bytes: it is missing at the place of what is missing, not at the length's.
	for _, r := range []struct {
		target []byte
		place  int
	}{{nil, 0}, {[]byte{1}, 0}, {[]byte{1, 'a'}, 2}, {[]byte{192}, 0}, {[]byte{1, 'a', 192}, 2}, {[]byte{5, 'a', 'b'}, 0}} {
		for n := range len(r.target) + 1 {
			checkRecord(t, slices.Concat(host("a"), tail(5, 1, 5, n, r.target...)), 0, wrong(api.ErrShort, 13+r.place))
		}
		checkRecord(t, slices.Concat(host("a"), tail(5, 1, 5, len(r.target)+1, r.target...)), 0, wrong(api.ErrShort, 11))
	}
}

// Of several faults the one that is named first is told.
func TestOrderOfFaults(t *testing.T) {
	for _, r := range []struct {
		b     []byte
		code  api.Errno
		place int
	}{
		{slices.Concat([]byte{64}, tail(1, 1, 5, 3)), api.ErrLabel, 0},               // the name, then the length
		{slices.Concat([]byte{0}, tail(1, 1, 5, 3, 1, 2)), api.ErrShort, 9},          // too few there, then the length
		{slices.Concat([]byte{0}, tail(1, 1, 5, 5, 1, 2, 3, 4)), api.ErrShort, 9},    // the same
		{slices.Concat([]byte{0}, tail(28, 1, 5, 4, 1, 2, 3)), api.ErrShort, 9},      // the same
		{slices.Concat([]byte{0}, tail(5, 1, 5, 2, 64)), api.ErrShort, 9},            // too few there, then the target
		{slices.Concat([]byte{0}, tail(5, 1, 5, 9, 255, 255, 0)), api.ErrShort, 9},   // the same
		{slices.Concat([]byte{0}, tail(5, 1, 5, 1, 1, 'a')), api.ErrShort, 13},       // the target, then the length
		{slices.Concat([]byte{0}, tail(5, 1, 5, 0, 255, 255)), api.ErrPointer, 11},   // the same
		{slices.Concat([]byte{0}, tail(5, 1, 5, 3, 64, 0, 0)), api.ErrLabel, 11},     // the same
		{slices.Concat([]byte{0}, tail(5, 1, 5, 3, 1, 'a', 64)), api.ErrLabel, 13},   // the same
		{slices.Concat([]byte{0}, tail(5, 1, 5, 65_535, 0)), api.ErrShort, 9},        // too few there, then the length
		{slices.Concat([]byte{192, 0}, tail(5, 1, 5, 0, 64)), api.ErrPointer, 0},     // the name, then the target
		{slices.Concat([]byte{1, 'a', 1}, tail(5, 1, 5, 65_535)), api.ErrLabel, 2},   // the name, then the rest
		{slices.Concat([]byte{9, 'a'}, two(1)), api.ErrShort, 0},                     // the name, then the class
		{slices.Concat([]byte{0}, two(5), two(1), []byte{0, 0, 0}), api.ErrShort, 5}, // the ttl, then the length
	} {
		checkRecord(t, r.b, 0, wrong(r.code, r.place))
		checkRead(t, r.b, 0)
	}
	for _, q := range []api.Question{{Name: "A", Type: -1, Class: 65_536}, {Name: "a", Type: -1, Class: -1}, {Name: ".", Type: 1, Class: -1}} {
		checkAsked(t, q, false)
	}
}

func TestQuestionsThatMayNotBe(t *testing.T) {
	for _, v := range []int{-1, -2, -65_535, -65_536, 65_536, 65_537, 131_072, math.MaxInt32, math.MinInt32, math.MaxInt, math.MinInt} {
		checkAsked(t, api.Question{Name: "a", Type: v, Class: 1}, false)
		checkAsked(t, api.Question{Name: "a", Type: 1, Class: v}, false)
		checkAsked(t, api.Question{Type: v, Class: v}, false)
	}
	for _, s := range nones() {
		checkAsked(t, api.Question{Name: s, Type: 1, Class: 1}, false)
	}
	for _, s := range []string{"", "a", "www.example.org", "_x.*.~", longest(), strings.Repeat("a.", 126) + "a"} {
		checkAsked(t, api.Question{Name: s, Type: 1, Class: 1}, true)
	}
}

func TestRecordsThatMayBe(t *testing.T) {
	for _, r := range rights() {
		checkRight(t, r)
		if !expectedRight(r) {
			t.Fatalf("the tests' own record %+v is not right", r)
		}
	}
}

// One thing at a time is as it may not be.
func TestRecordsThatMayNotBe(t *testing.T) {
	for _, r := range rights() {
		for _, s := range nones() {
			w := r
			w.Name = s
			checkNone(t, w)
			w = r
			w.Target = s
			checkNone(t, w)
		}
		for _, v := range []int{-1, -2, -65_535, -65_531, -65_508, 65_536, 65_537, 65_541, 65_564, math.MaxInt32, math.MinInt32, math.MaxInt, math.MinInt} {
			w := r
			w.Type = v
			checkNone(t, w)
			w = r
			w.Class = v
			checkNone(t, w)
		}
		for _, v := range bounds() {
			w := r
			w.Class = v
			checkRight(t, w)
			w = r
			w.Type = v
			checkWhether(t, w)
		}
	}
}

func TestAddressesThatMayNotBe(t *testing.T) {
	for i := range 16 {
		for _, v := range []byte{1, 128, 255} {
			for _, v6th := range []bool{false, true} {
				a := api.Addr{V6: v6th}
				a.B[i] = v
				for _, kind := range []int{0, 1, 2, 5, 16, 28, 65_535} {
					r := api.Record{Name: "a", Type: kind, Class: 1, Ttl: 5, Addr: a}
					right := kind == 1 && !v6th && i < 4 || kind == 28 && v6th
					if expectedRight(r) != right {
						t.Fatalf("the tests' own %+v: want %v", r, right)
					}
					checkWhether(t, r)
				}
			}
		}
	}
	for _, r := range []struct {
		kind  int
		a     api.Addr
		right bool
	}{{1, v4(), true}, {1, v6(), false}, {28, v4(), false}, {28, v6(), true}, {5, v4(), true}, {5, v6(), false}, {16, v4(), true}, {16, v6(), false}, {28, v4(1, 2, 3, 4), false}, {1, v6(1, 2, 3, 4), false}} {
		w := api.Record{Name: "a", Type: r.kind, Class: 1, Addr: r.a}
		if r.right {
			checkRight(t, w)
		} else {
			checkNone(t, w)
		}
	}
}

func TestDataThatMayNotBe(t *testing.T) {
	for _, n := range []int{1, 2, 4, 16, 255, 256, 999, 1_000, 1_001, 1_002, 1_024, 2_000, 4_000, 65_535, 65_536, 65_537, 66_000, 131_073} {
		data := counting(n, n)
		for _, kind := range []int{0, 2, 6, 16, 27, 29, 255, 65_535} {
			r := api.Record{Name: "a", Type: kind, Class: 1, Data: data}
			if n <= 1_000 {
				checkRight(t, r)
			} else {
				checkNone(t, r)
			}
		}
		for _, r := range []api.Record{{Type: 1}, {Type: 28, Addr: v6()}, {Type: 5}, {Type: 5, Target: "a"}, {Type: 1, Addr: v4(1, 2, 3, 4)}} {
			r.Data = data
			checkNone(t, r)
		}
	}
}

func TestTargetsThatMayNotBe(t *testing.T) {
	for _, s := range []string{"a", "a.b", longest(), "_"} {
		checkRight(t, api.Record{Name: "a", Type: 5, Target: s})
		for _, r := range []api.Record{{}, {Type: 1}, {Type: 28, Addr: v6()}, {Type: 16, Data: []byte{1}}, {Type: 65_535}} {
			checkRight(t, r)
			r.Target = s
			checkNone(t, r)
		}
	}
	checkRight(t, api.Record{Type: 5, Data: []byte{}})
	checkRight(t, api.Record{Type: 1, Data: []byte{}})
	checkRight(t, api.Record{Type: 28, Addr: v6(), Data: make([]byte, 0, 9)})
}

// Each type with each of what another one has, and each two of these.
func TestWhatATypeHasNot(t *testing.T) {
	for _, kind := range []int{0, 1, 2, 5, 16, 28, 65_535} {
		for _, a := range []api.Addr{{}, v4(1, 2, 3, 4), v6(), whole6(), {B: whole6().B}} {
			for _, s := range []string{"", "a.b", "A"} {
				for _, data := range [][]byte{nil, {0}, {1, 2, 3, 4}, counting(0, 1_001)} {
					for _, host := range []string{"", "a", "."} {
						checkWhether(t, api.Record{Name: host, Type: kind, Class: 1, Ttl: 9, Addr: a, Target: s, Data: data})
					}
				}
			}
		}
	}
}

func TestWriteByHand(t *testing.T) {
	for _, r := range []struct {
		r    api.Record
		want []byte
	}{
		{api.Record{}, []byte{0, 0, 0, 0, 0, 0, 0, 0, 0, 0, 0}},
		{api.Record{Name: "a", Type: 1, Class: 2, Ttl: 0x03040506, Addr: v4(10, 1, 2, 3)}, []byte{1, 'a', 0, 0, 1, 0, 2, 3, 4, 5, 6, 0, 4, 10, 1, 2, 3}},
		{api.Record{Name: "a.bc", Type: 28, Class: 258, Addr: whole6()}, []byte{1, 'a', 2, 'b', 'c', 0, 0, 28, 1, 2, 0, 0, 0, 0, 0, 16, 32, 33, 34, 35, 36, 37, 38, 39, 40, 41, 42, 43, 44, 45, 46, 47}},
		{api.Record{Name: "x", Type: 5, Class: 1, Target: "y.x"}, []byte{1, 'x', 0, 0, 5, 0, 1, 0, 0, 0, 0, 0, 5, 1, 'y', 1, 'x', 0}},
		{api.Record{Type: 5, Class: 1}, []byte{0, 0, 5, 0, 1, 0, 0, 0, 0, 0, 1, 0}},
		{api.Record{Type: 0xfffe, Class: 0xfdfc, Ttl: 1<<32 - 1, Data: []byte{7, 8, 9}}, []byte{0, 255, 254, 253, 252, 255, 255, 255, 255, 0, 3, 7, 8, 9}},
	} {
		if b, e := WriteRecord(r.r); e != nil || !bytes.Equal(b, r.want) {
			t.Errorf("P13.3: WriteRecord of %+v: %v, %v; want %v", r.r, b, e, r.want)
		}
		checkRight(t, r.r)
	}
	b, e := WriteQuestion(api.Question{Name: "a.bc", Type: 258, Class: 772})
	if e != nil || !bytes.Equal(b, []byte{1, 'a', 2, 'b', 'c', 0, 1, 2, 3, 4}) {
		t.Errorf("P13.3: WriteQuestion: %v, %v", b, e)
	}
	data := make([]byte, 1_000)
	b, e = WriteRecord(api.Record{Type: 16, Data: data})
	if e != nil || len(b) != 1_011 || b[9] != 3 || b[10] != 232 {
		t.Errorf("P13.3: WriteRecord of 1,000 bytes: %d, %v", len(b), e)
	}
}

// What is written, all records one behind the other, is read, each where it stands.
func TestWhatIsWrittenIsRead(t *testing.T) {
	var b []byte
	for range 2 {
		for _, r := range rights() {
			at := len(b)
			q := api.Question{Name: r.Name, Type: r.Type, Class: r.Class}
			asked, e := WriteQuestion(q)
			if e != nil {
				t.Fatalf("P13.3: WriteQuestion of %+v: %v", q, e)
			}
			written, e := WriteRecord(r)
			if e != nil {
				t.Fatalf("P13.3: WriteRecord of %+v: %v", r, e)
			}
			b = slices.Concat(b, asked, written)
			checkQuestion(t, b, at, answer{r: api.Record{Name: r.Name, Type: r.Type, Class: r.Class}, end: at + len(asked)})
			checkRecord(t, b, at+len(asked), answer{r: r, end: len(b)})
		}
	}
	at := 0
	for range 2 {
		for _, r := range rights() {
			_, end, e := ReadQuestion(b, at)
			if e != nil {
				t.Fatalf("P13.1: a question at %d: %v", at, e)
			}
			got, behind, e := ReadRecord(b, end)
			if e != nil || !same(got, r) {
				t.Fatalf("P13.2: a record at %d: %+v, %v; want %+v", end, got, e, r)
			}
			at = behind
		}
	}
	if at != len(b) {
		t.Fatalf("P13.2: all is read at %d; want %d", at, len(b))
	}
}

// What is read, also by way of pointers and of capitals, may be written, and is read as the same.
func TestWhatIsReadIsWritten(t *testing.T) {
	seed := uint32(3)
	for range 3_000 {
		p := random(&seed, 40)
		target := [][]byte{{192, 0}, {1, 'Z', 192, 2}, {2, 'Z', 'z', 0}, {0}}[p[0]%4]
		kind, data := []int{1, 28, 5, 16, 258}[p[1]%5], [][]byte{p[20:24], p[20:36], target, p[20 : 20+p[2]%20], nil}[p[1]%5]
		b := slices.Concat([]byte{1, 'Q', 0}, host(labelOf(p[4:5+p[3]%9])), tail(kind, int(p[13]), uint32(p[14])<<(p[15]%25), len(data), data...), p)
		checkRead(t, b, 3)
		r, _, e := ReadRecord(b, 3)
		if e != nil {
			t.Fatalf("P13.2: ReadRecord of %v: %v", b, e)
		}
		checkRight(t, r)
	}
}

// labelOf: letters that hang on p.
func labelOf(p []byte) string {
	b := bytes.Clone(p)
	for i, c := range b {
		b[i] = 'a' + c%26
	}
	return string(b)
}

// Each short text of the bytes that mean something.
func TestShortTexts(t *testing.T) {
	signs := []byte{0, 1, 5, 'A', 192}
	b := make([]byte, 6)
	for v := range 5 * 5 * 5 * 5 * 5 * 5 {
		for i := range b {
			b[i], v = signs[v%5], v/5
		}
		for n := range len(b) + 1 {
			checkRead(t, b[:n], 0)
		}
		checkRead(t, b, 2)
	}
}

// Each short tail behind a name, of each type that has a form.
func TestShortTails(t *testing.T) {
	for _, kind := range []int{1, 5, 16, 28} {
		for n := range 6 {
			for v := range 6 * 6 * 6 * 6 {
				var data []byte
				for range 4 {
					data, v = append(data, []byte{0, 1, 2, 'b', 64, 192}[v%6]), v/6
				}
				checkRecord(t, slices.Concat([]byte{0}, tail(kind, 1, 5, n, data...)), 0, expectedRecord(slices.Concat([]byte{0}, tail(kind, 1, 5, n, data...)), 0))
			}
		}
	}
}

func TestOfAnything(t *testing.T) {
	seed := uint32(1)
	for range 20_000 {
		b := random(&seed, int(random(&seed, 1)[0]%60))
		checkRead(t, b, int(random(&seed, 1)[0]%4))
	}
	// With some bytes of real messages turned.
	for range 300 {
		var b []byte
		for _, r := range rights()[9:16] {
			b = append(b, told(r)...)
		}
		for range 8 {
			p := random(&seed, 3)
			b[(256*int(p[0])+int(p[1]))%len(b)] = p[2]
		}
		checkPlaces(t, b)
	}
}

func TestRightOfAnything(t *testing.T) {
	seed := uint32(2)
	for range 20_000 {
		p := random(&seed, 12)
		r := api.Record{Type: []int{1, 5, 28, 16, -1, 65_536, 65_535, 0}[p[0]%8], Class: []int{1, 0, 65_535, -1, 65_536, 255}[p[1]%6], Ttl: uint32(p[2])}
		r.Name = []string{"", "a", "a.b", "a.", "www.example"}[p[3]%5]
		if p[4]%3 == 0 {
			r.Target = []string{"", "a", "A", "b.c"}[p[5]%4]
		}
		if p[6]%3 == 0 {
			r.Data = random(&seed, int(p[7]%5))
		}
		if p[8]%2 == 0 {
			r.Addr = api.Addr{V6: p[9]%2 == 0}
			copy(r.Addr.B[:p[10]%17], counting(32, 16))
		}
		checkWhether(t, r)
	}
}

// What stands in the room behind the end is not read, and not written on.
func TestRoomBehindTheEnd(t *testing.T) {
	for _, r := range rights() {
		whole := append(told(r), told(r)...)
		if len(whole) > 200 {
			continue
		}
		for size := range len(whole) + 1 {
			b := bytes.Clone(whole)
			for _, at := range []int{0, 1, len(whole) / 2} {
				cut := bytes.Clone(whole[:size])
				checkQuestion(t, b[:size], at, expectedQuestion(cut, at))
				checkRecord(t, b[:size], at, expectedRecord(cut, at))
			}
			if !bytes.Equal(b, whole) {
				t.Fatalf("R3: what stands behind %d bytes was written on", size)
			}
		}
	}
	for _, n := range []int{0, 1, 4, 16} {
		data := bytes.Repeat([]byte{9}, 40)
		b, e := WriteRecord(api.Record{Name: "a", Type: 16, Data: data[:n]})
		if e != nil || len(b) != 13+n || !bytes.Equal(data, bytes.Repeat([]byte{9}, 40)) {
			t.Fatalf("R3: WriteRecord of %d bytes with room behind them: %v, %v; they are %v", n, b, e, data)
		}
	}
}

// fill: what stands in b, and in the room behind its end, is another.
func fill(b []byte, v byte) {
	b = b[:cap(b)]
	for i := range b {
		b[i] = v
	}
}

func TestAnswersAreNew(t *testing.T) {
	for _, r := range rights() {
		want := told(r)
		given := copied(r)
		held, e := WriteRecord(given)
		if e != nil {
			t.Fatalf("P13.3: WriteRecord of %+v: %v", r, e)
		}
		next, _ := WriteRecord(given)
		fill(next, 'x')
		fill(given.Data, 'y')
		if !bytes.Equal(held, want) {
			t.Fatalf("R3: who writes into a record, or into another answer of WriteRecord, changes an answer: %v", held)
		}
		b := bytes.Clone(want)
		one, _, _ := ReadRecord(b, 0)
		two, _, _ := ReadRecord(b, 0)
		fill(two.Data, 'x')
		if !same(one, r) || !bytes.Equal(b, want) {
			t.Fatalf("R3: who writes into an answer of ReadRecord changes another: %+v, %v", one, b)
		}
		fill(b, 'z')
		if !same(one, r) {
			t.Fatalf("R3: who writes into what ReadRecord was given changes its answer: %+v", one)
		}
		q := api.Question{Name: r.Name, Type: r.Type, Class: r.Class}
		asked, _ := WriteQuestion(q)
		other, _ := WriteQuestion(q)
		fill(other, 'x')
		if !bytes.Equal(asked, ask(q)) {
			t.Fatalf("R3: who writes into one answer of WriteQuestion changes another: %v", asked)
		}
	}
}

func TestErrorsAreNew(t *testing.T) {
	for _, b := range [][]byte{nil, {0}, {0, 0, 1}, {64}, {192, 0}, tail(0, 0, 0, 9), append([]byte{0}, tail(1, 1, 5, 3, 1, 2, 3)...), append([]byte{0}, tail(5, 1, 5, 2, 64, 0)...), append([]byte{0}, tail(5, 1, 5, 2, 0, 0)...), append([]byte{0}, tail(16, 1, 5, 3, 0)...)} {
		w := expectedRecord(b, 0)
		_, _, held := ReadRecord(b, 0)
		_, _, next := ReadRecord(b, 0)
		var f *api.Fault
		if !errors.As(next, &f) {
			t.Fatalf("R4: %v: no place in it", next)
		}
		f.At, f.Err = 77, api.ErrBig
		if !is(held, w.code, w.place) {
			t.Errorf("R3: who writes into one error changes another: %v", held)
		}
		checkRead(t, b, 0)
	}
}

func TestAnswersHangOnArgumentsAlone(t *testing.T) {
	b := slices.Concat([]byte{1, 'A', 0}, plain(5, 192, 0), []byte{192, 0}, plain(28, counting(7, 16)...), []byte{192, 0}, plain(16, 1, 2))
	for range 3 {
		for at := len(b) + 2; at >= -2; at-- {
			checkRead(t, b, at)
			checkNone(t, api.Record{Type: 1, Data: []byte{1}})
			checkRight(t, rights()[1])
			checkRead(t, nil, at)
			checkAsked(t, api.Question{Name: "a..b"}, false)
		}
		checkPlaces(t, b)
	}
}
