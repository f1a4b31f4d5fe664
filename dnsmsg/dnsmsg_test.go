package dnsmsg

import (
	"bytes"
	"errors"
	"math"
	"slices"
	"strings"
	"testing"

	"stockade/api"
	"stockade/fault"
	"stockade/name"
	"stockade/record"
)

// noPlace: of an error that says none.
const noPlace = -1

// is tells whether e is an error of that number at that place; of 0 whether there is none.
func is(e error, code api.Errno, at int) bool {
	if code == 0 {
		return e == nil
	}
	return errors.Is(e, code) && fault.Code(e) == code && placeOf(e) == at
}

// placeOf: of an error, or noPlace.
func placeOf(e error) int {
	if at, is := fault.Place(e); is {
		return at
	}
	return noPlace
}

// sameRecord: are all fields, and all bytes, the same?
func sameRecord(r, s api.Record) bool {
	return r.Name == s.Name && r.Type == s.Type && r.Class == s.Class && r.Ttl == s.Ttl && r.Addr == s.Addr && r.Target == s.Target && bytes.Equal(r.Data, s.Data)
}

// sections: the lists of m's records, in their order.
func sections(m *api.Message) []*[]api.Record {
	return []*[]api.Record{&m.Answers, &m.Authority, &m.Extra}
}

// same: are all fields, and all that is in the lists, the same?
func same(m, n api.Message) bool {
	if m.Id != n.Id || m.Reply != n.Reply || m.Opcode != n.Opcode || m.Code != n.Code || m.Flags != n.Flags || !slices.Equal(m.Questions, n.Questions) {
		return false
	}
	for i, l := range sections(&m) {
		if !slices.EqualFunc(*l, *sections(&n)[i], sameRecord) {
			return false
		}
	}
	return true
}

// copied: m with lists, and bytes, of its own.
func copied(m api.Message) api.Message {
	m.Questions = slices.Clone(m.Questions)
	for _, l := range sections(&m) {
		*l = slices.Clone(*l)
		for i := range *l {
			(*l)[i].Data = bytes.Clone((*l)[i].Data)
		}
	}
	return m
}

// v4, v6: addresses that begin with these bytes.
func v4(b ...byte) (a api.Addr) {
	copy(a.B[:], b)
	return a
}

func v6(b ...byte) (a api.Addr) {
	a.V6 = true
	copy(a.B[:], b)
	return a
}

// counting: so many bytes, each one more than the one ahead of it.
func counting(from, n int) []byte {
	b := make([]byte, n)
	for i := range b {
		b[i] = byte(from + i)
	}
	return b
}

// two, four: v as so many bytes.
func two(v int) []byte     { return []byte{byte(v / 256), byte(v % 256)} }
func four(v uint32) []byte { return slices.Concat(two(int(v/65_536)), two(int(v%65_536))) }

// host: a name's bytes, right or not.
func host(s string) []byte {
	var b []byte
	if s != "" {
		for _, label := range strings.Split(s, ".") {
			b = append(append(b, byte(len(label))), label...)
		}
	}
	return append(b, 0)
}

// ask: a question's bytes, right or not.
func ask(q api.Question) []byte {
	return slices.Concat(host(q.Name), two(q.Type), two(q.Class))
}

// tail: what stands behind a record's name.
func tail(kind, class int, left uint32, data ...byte) []byte {
	return slices.Concat(two(kind), two(class), four(left), two(len(data)), data)
}

// told: a record's bytes, by what its type has.
func told(r api.Record) []byte {
	data := r.Data
	switch r.Type {
	case 1:
		data = r.Addr.B[:4]
	case 28:
		data = r.Addr.B[:16]
	case 5:
		data = host(r.Target)
	}
	return slices.Concat(host(r.Name), tail(r.Type, r.Class, r.Ttl, data...))
}

// bits: the number at 2 of a head.
func bits(reply bool, opcode, flags, code int) int {
	v := opcode*2_048 + flags*16 + code
	if reply {
		v += 32_768
	}
	return v
}

// headOfCounts: the head of the message with id 0 that has nothing in it but what these say: how many of what are behind it.
func headOfCounts(counts ...int) []byte {
	b := make([]byte, 12)
	for i, n := range counts {
		copy(b[4+2*i:], two(n))
	}
	return b
}

// bytesOf: a message's bytes, right or not.
func bytesOf(m api.Message) []byte {
	b := slices.Concat(two(m.Id), two(bits(m.Reply, m.Opcode, m.Flags, m.Code)), two(len(m.Questions)), two(len(m.Answers)), two(len(m.Authority)), two(len(m.Extra)))
	for _, q := range m.Questions {
		b = append(b, ask(q)...)
	}
	for _, l := range sections(&m) {
		for _, r := range *l {
			b = append(b, told(r)...)
		}
	}
	return b
}

// random: so many bytes that hang on the seed alone.
func random(seed *uint32, n int) []byte {
	b := make([]byte, n)
	for i := range b {
		*seed = *seed*1_664_525 + 1_013_904_223
		b[i] = byte(*seed >> 24)
	}
	return b
}

// answer of Parse.
type answer struct {
	m     api.Message
	code  api.Errno
	place int
}

// wrong: an answer of an error alone.
func wrong(code api.Errno, place int) answer {
	return answer{code: code, place: place}
}

// expected: what the promise says of Parse, sentence by sentence.
func expected(b []byte) answer {
	if len(b) > 4_000 {
		return wrong(api.ErrBig, noPlace)
	}
	if len(b) < 12 {
		return wrong(api.ErrShort, 0)
	}
	v := func(at int) int { return 256*int(b[at]) + int(b[at+1]) }
	if v(4)+v(6)+v(8)+v(10) > 64 {
		return wrong(api.ErrBig, 4)
	}
	w := answer{m: api.Message{Id: v(0), Reply: v(2)/32_768 == 1, Opcode: v(2) / 2_048 % 16, Flags: v(2) / 16 % 128, Code: v(2) % 16}}
	at := 12
	for i := 0; i < v(4); i++ {
		q, end, e := record.ReadQuestion(b, at)
		if e != nil {
			return wrong(fault.Code(e), placeOf(e))
		}
		w.m.Questions, at = append(w.m.Questions, q), end
	}
	for s, l := range sections(&w.m) {
		for i := 0; i < v(6+2*s); i++ {
			r, end, e := record.ReadRecord(b, at)
			if e != nil {
				return wrong(fault.Code(e), placeOf(e))
			}
			*l, at = append(*l, r), end
		}
	}
	if at < len(b) {
		return wrong(api.ErrLength, at)
	}
	return w
}

// begin: what a failed test shows of b.
func begin(b []byte) []byte {
	return b[:min(len(b), 60)]
}

// checkParse: Parse answers this, and leaves what it was given.
func checkParse(t *testing.T, b []byte, w answer) {
	t.Helper()
	before := bytes.Clone(b)
	m, e := Parse(b)
	if !is(e, w.code, w.place) || w.code == 0 && !same(m, w.m) {
		t.Fatalf("P14.1: Parse of %d bytes (%v ..): %+v, %v at %d; want %+v", len(b), begin(b), m, e, placeOf(e), w)
	}
	if e != nil && !same(m, api.Message{}) {
		t.Fatalf("R5: Parse of %d bytes (%v ..): %+v beside %v", len(b), begin(b), m, e)
	}
	if !bytes.Equal(b, before) {
		t.Fatalf("R3: Parse changed the %d bytes (%v ..) that were handed in", len(b), begin(b))
	}
}

// checkRead: Parse answers what the promise says.
func checkRead(t *testing.T, b []byte) {
	t.Helper()
	checkParse(t, b, expected(b))
}

// expectedCode: what the promise says of Write's error.
func expectedCode(m api.Message) api.Errno {
	if m.Id < 0 || m.Id > 65_535 || m.Opcode < 0 || m.Opcode > 15 || m.Code < 0 || m.Code > 15 || m.Flags < 0 || m.Flags > 127 {
		return api.ErrArg
	}
	if len(m.Questions)+len(m.Answers)+len(m.Authority)+len(m.Extra) > 64 {
		return api.ErrArg
	}
	for _, q := range m.Questions {
		if !name.Right(q.Name) || q.Type < 0 || q.Type > 65_535 || q.Class < 0 || q.Class > 65_535 {
			return api.ErrArg
		}
	}
	for _, l := range sections(&m) {
		if slices.ContainsFunc(*l, func(r api.Record) bool { return !record.RightRecord(r) }) {
			return api.ErrArg
		}
	}
	if len(bytesOf(m)) > 4_000 {
		return api.ErrBig
	}
	return 0
}

// checkNone: Write says so of m, and leaves it.
func checkNone(t *testing.T, m api.Message, code api.Errno) {
	t.Helper()
	before := copied(m)
	b, e := Write(m)
	if !is(e, code, noPlace) || len(b) != 0 {
		t.Fatalf("P14.1: Write of %+v: %d bytes, %v at %d; want none, %d", m, len(b), e, placeOf(e), code)
	}
	if !same(m, before) {
		t.Fatalf("R3: what was handed in, %+v, is %+v now", before, m)
	}
}

// checkWritten: m is written as it is, and left; what is written is parsed.
func checkWritten(t *testing.T, m api.Message) {
	t.Helper()
	before, want := copied(m), bytesOf(m)
	b, e := Write(m)
	if e != nil || !bytes.Equal(b, want) {
		t.Fatalf("P14.1: Write of %+v: %v, %v; want %v", m, b, e, want)
	}
	if !same(m, before) {
		t.Fatalf("R3: what was handed in, %+v, is %+v now", before, m)
	}
	checkParse(t, b, answer{m: before})
}

// checkWrite: as the promise says.
func checkWrite(t *testing.T, m api.Message) {
	t.Helper()
	if code := expectedCode(m); code != 0 {
		checkNone(t, m, code)
	} else {
		checkWritten(t, m)
	}
}

// questions, records: so many, no two of them the same.
func questions(n int) []api.Question {
	var l []api.Question
	for i := range n {
		l = append(l, api.Question{Name: "q" + string(rune('a'+i%26)), Type: i, Class: 65_535 - i})
	}
	return l
}

func records(n int) []api.Record {
	var l []api.Record
	for i := range n {
		r := api.Record{Name: "r" + string(rune('a'+i%26)), Class: i, Ttl: 1<<32 - 1 - uint32(i)}
		switch i % 4 {
		case 0:
			r.Type, r.Addr = 1, v4(byte(i), 2, 3, 4)
		case 1:
			r.Type, r.Target = 5, "t."+r.Name
		case 2:
			r.Type, r.Addr = 28, v6(counting(i, 16)...)
		default:
			r.Type, r.Data = 16, counting(i, i%7)
		}
		l = append(l, r)
	}
	return l
}

// withCounts: a message of so many of each, no two of them the same.
func withCounts(q, answers, authority, extra int) api.Message {
	l := records(answers + authority + extra)
	m := api.Message{Id: 7, Reply: true, Questions: questions(q)}
	m.Answers, m.Authority, m.Extra = l[:answers], l[answers:answers+authority], l[answers+authority:]
	return m
}

// longest: a name that is just so long, as it is written.
func longest() string {
	s := strings.Repeat("x", 63)
	return strings.Join([]string{s, s, s, s[:61]}, ".")
}

// rights: messages that are as they may be.
func rights() []api.Message {
	return []api.Message{
		{},
		{Id: 1},
		{Id: 65_535, Reply: true, Opcode: 15, Code: 15, Flags: 127},
		{Id: 256, Opcode: 1, Code: 2, Flags: 64},
		{Id: 0x1234, Reply: true, Opcode: 2, Flags: 0x55, Code: 3, Answers: records(1)},
		{Id: 9, Flags: 16, Questions: []api.Question{{Name: "www.example.org", Type: 1, Class: 1}}},
		{Questions: make([]api.Question, 64)},
		{Extra: make([]api.Record, 64)},
		{Questions: []api.Question{{Name: longest(), Type: 65_535, Class: 65_535}}, Authority: []api.Record{{Name: longest(), Type: 5, Class: 65_535, Ttl: 1<<32 - 1, Target: longest()}}},
		{Extra: []api.Record{{Name: "a", Type: 2, Data: counting(0, 1_000)}, {Type: 65_535, Data: counting(9, 1_000)}}},
		withCounts(1, 0, 0, 0),
		withCounts(0, 1, 0, 0),
		withCounts(0, 0, 1, 0),
		withCounts(0, 0, 0, 1),
		withCounts(1, 2, 3, 4),
		withCounts(4, 3, 2, 1),
		withCounts(16, 16, 16, 16),
		withCounts(0, 21, 22, 21),
	}
}

// checkBoth: Parse answers this, which is what the promise says.
func checkBoth(t *testing.T, b []byte, w answer) {
	t.Helper()
	checkParse(t, b, w)
	checkRead(t, b)
}

func TestExample(t *testing.T) {
	checkBoth(t, make([]byte, 12), answer{})
	m, e := Parse(make([]byte, 12))
	if e != nil || m.Questions != nil && len(m.Questions) > 0 || len(m.Answers)+len(m.Authority)+len(m.Extra) > 0 {
		t.Errorf("P14.1: Parse of twelve bytes 0: %+v, %v", m, e)
	}
}

func TestParseByHand(t *testing.T) {
	q := []byte{1, 'A', 0, 0, 1, 0, 1}                                    // at 12
	address := []byte{192, 12, 0, 1, 0, 1, 0, 0, 1, 4, 0, 4, 10, 1, 2, 3} // and at 19
	for _, r := range []struct {
		b    []byte
		want answer
	}{
		{slices.Concat([]byte{1, 2, 0x95, 0x53, 0, 1, 0, 0, 0, 0, 0, 0}, q), answer{m: api.Message{Id: 258, Reply: true, Opcode: 2, Flags: 0x55, Code: 3, Questions: []api.Question{{Name: "a", Type: 1, Class: 1}}}}},
		{slices.Concat([]byte{0, 9, 1, 0, 0, 1, 0, 1, 0, 0, 0, 0}, q, address), answer{m: api.Message{Id: 9, Flags: 16, Questions: []api.Question{{Name: "a", Type: 1, Class: 1}}, Answers: []api.Record{{Name: "a", Type: 1, Class: 1, Ttl: 260, Addr: v4(10, 1, 2, 3)}}}}},
		{slices.Concat([]byte{255, 255, 255, 255, 0, 0, 0, 0, 0, 2, 0, 0}, []byte{0, 0, 16, 0, 3, 0, 0, 0, 0, 0, 2, 7, 8}, []byte{0, 0, 5, 0, 1, 0, 0, 0, 5, 0, 3, 1, 'T', 0}), answer{m: api.Message{Id: 65_535, Reply: true, Opcode: 15, Flags: 127, Code: 15, Authority: []api.Record{{Type: 16, Class: 3, Data: []byte{7, 8}}, {Type: 5, Class: 1, Ttl: 5, Target: "t"}}}}},
		{slices.Concat(headOfCounts(0, 0, 0, 1), []byte{0, 0, 28, 0, 1, 0, 0, 0, 5, 0, 16}, counting(1, 16)), answer{m: api.Message{Extra: []api.Record{{Type: 28, Class: 1, Ttl: 5, Addr: v6(counting(1, 16)...)}}}}},
		{nil, wrong(api.ErrShort, 0)},
		{make([]byte, 11), wrong(api.ErrShort, 0)},
		{make([]byte, 13), wrong(api.ErrLength, 12)},
		{make([]byte, 4_000), wrong(api.ErrLength, 12)},
		{make([]byte, 4_001), wrong(api.ErrBig, noPlace)},
		{headOfCounts(1), wrong(api.ErrShort, 12)},
		{headOfCounts(65), wrong(api.ErrBig, 4)},
		{slices.Concat(headOfCounts(2), q), wrong(api.ErrShort, 19)},
		{slices.Concat(headOfCounts(1), q, q), wrong(api.ErrLength, 19)},
		{slices.Concat(headOfCounts(1, 2), q, address), wrong(api.ErrShort, 35)},
		{slices.Concat(headOfCounts(1, 1), q, address, []byte{0}), wrong(api.ErrLength, 35)},
		{slices.Concat(headOfCounts(1, 1), q, address[:15]), wrong(api.ErrShort, 29)},
		{slices.Concat(headOfCounts(1, 1), []byte{192, 12}, q), wrong(api.ErrPointer, 12)},
	} {
		checkBoth(t, r.b, r.want)
	}
}

// sized: a message of n bytes, of which a record of type 16 has those that are left.
func sized(n int) api.Message {
	return api.Message{Extra: []api.Record{{Name: "a", Type: 16, Class: 1, Ttl: 5, Data: counting(3, n-25)}}}
}

func TestTooBig(t *testing.T) {
	seed := uint32(5)
	for _, n := range []int{3_998, 3_999, 4_000, 4_001, 4_002, 4_096, 8_000, 65_535, 65_536} {
		m := sized(n)
		b := bytesOf(m)
		if len(b) != n {
			t.Fatalf("the tests' own message has %d bytes; want %d", len(b), n)
		}
		if n <= 4_000 {
			checkBoth(t, b, answer{m: m})
			checkBoth(t, make([]byte, n), wrong(api.ErrLength, 12))
			checkRead(t, random(&seed, n))
			continue
		}
		// Whatever else is wrong with it.
		for _, c := range [][]byte{b, make([]byte, n), random(&seed, n), bytes.Repeat([]byte{255}, n), bytes.Repeat([]byte{192}, n), append(headOfCounts(65), make([]byte, n-12)...), b[:n:n]} {
			checkBoth(t, c, wrong(api.ErrBig, noPlace))
		}
	}
	// Of a message that is too big only by what stands behind its last record.
	b := bytesOf(sized(4_000))
	checkBoth(t, b[:3_999], wrong(api.ErrShort, 23))
	checkBoth(t, append(b, 0), wrong(api.ErrBig, noPlace))
	b = append(bytesOf(sized(3_999)), 7)
	checkBoth(t, b, wrong(api.ErrLength, 3_999))
	checkBoth(t, append(b, 7), wrong(api.ErrBig, noPlace))
}

func TestFewerThanTwelve(t *testing.T) {
	whole := bytesOf(rights()[14])
	for n := range 12 {
		for _, b := range [][]byte{make([]byte, n), bytes.Repeat([]byte{255}, n), bytes.Repeat([]byte{192}, n), headOfCounts(65, 65, 65, 65)[:n], headOfCounts(1, 1, 1, 1)[:n], whole[:n], bytes.Clone(whole[:n])} {
			checkBoth(t, b, wrong(api.ErrShort, 0))
		}
	}
	checkBoth(t, headOfCounts(), answer{})
	checkBoth(t, nil, wrong(api.ErrShort, 0))
	checkBoth(t, []byte{}, wrong(api.ErrShort, 0))
}

// Each id, and each number of bits.
func TestHead(t *testing.T) {
	for v := range 65_536 {
		b := append(slices.Concat(two(v), two(65_535-v)), make([]byte, 8)...)
		m, e := Parse(b)
		n := 65_535 - v
		if e != nil || m.Id != v || m.Reply != (n >= 32_768) || m.Opcode != n/2_048%16 || m.Flags != n/16%128 || m.Code != n%16 {
			t.Fatalf("P14.1: Parse of %v: %+v, %v", b, m, e)
		}
		if written, e := Write(m); e != nil || !bytes.Equal(written, b) {
			t.Fatalf("P14.1: Write of %+v: %v, %v; want %v", m, written, e, b)
		}
	}
}

// Each bit of the head by itself, set, and all others set.
func TestBitsByHand(t *testing.T) {
	full := api.Message{Id: 65_535, Reply: true, Opcode: 15, Flags: 127, Code: 15}
	for bit := range 16 {
		one, others := api.Message{}, full
		switch {
		case bit == 15:
			one.Reply, others.Reply = true, false
		case bit >= 11:
			one.Opcode, others.Opcode = 1<<(bit-11), 15-1<<(bit-11)
		case bit >= 4:
			one.Flags, others.Flags = 1<<(bit-4), 127-1<<(bit-4)
		default:
			one.Code, others.Code = 1<<bit, 15-1<<bit
		}
		b := append(slices.Concat(two(0), two(1<<bit)), make([]byte, 8)...)
		checkBoth(t, b, answer{m: one})
		checkWritten(t, one)
		b = append(slices.Concat(two(65_535), two(65_535-1<<bit)), make([]byte, 8)...)
		checkBoth(t, b, answer{m: others})
		checkWritten(t, others)
		id := append(two(1<<bit), make([]byte, 10)...)
		checkBoth(t, id, answer{m: api.Message{Id: 1 << bit}})
		checkWritten(t, api.Message{Id: 1 << bit})
	}
}

// Both with what stands behind the head, and each field at its bounds.
func TestHeadWithMore(t *testing.T) {
	for _, id := range []int{0, 1, 255, 256, 65_535} {
		for _, reply := range []bool{false, true} {
			for _, opcode := range []int{0, 1, 14, 15} {
				for _, flags := range []int{0, 1, 64, 126, 127} {
					for _, code := range []int{0, 1, 14, 15} {
						m := withCounts(1, 1, 0, 2)
						m.Id, m.Reply, m.Opcode, m.Flags, m.Code = id, reply, opcode, flags, code
						checkBoth(t, bytesOf(m), answer{m: m})
						checkWritten(t, m)
					}
				}
			}
		}
	}
}

// How many there are of each by itself: just as many are told, in their own list.
func TestCounts(t *testing.T) {
	for n := range 65 {
		for _, m := range []api.Message{withCounts(n, 0, 0, 0), withCounts(0, n, 0, 0), withCounts(0, 0, n, 0), withCounts(0, 0, 0, n)} {
			b := bytesOf(m)
			checkBoth(t, b, answer{m: m})
			checkBoth(t, append(b, 0), wrong(api.ErrLength, len(b)))
			checkWritten(t, m)
		}
	}
}

// Of one more than may be, and of many more: also where they all are there, and where none is.
func TestTooMany(t *testing.T) {
	for _, n := range []int{65, 66, 100, 128, 255, 256, 257, 320, 16_384, 32_767, 32_768, 65_472, 65_535} {
		for i := range 4 {
			counts := make([]int, 4)
			counts[i] = n
			for _, behind := range [][]byte{nil, {0}, {64}, bytes.Repeat([]byte{0}, 11*65), make([]byte, 3_988)} {
				checkBoth(t, slices.Concat(headOfCounts(counts...), behind), wrong(api.ErrBig, 4))
			}
			checkBoth(t, append(headOfCounts(counts...), make([]byte, 3_989)...), wrong(api.ErrBig, noPlace))
		}
	}
	for i := range 4 {
		counts := make([]int, 4)
		counts[i] = 65
		q := bytes.Repeat(ask(api.Question{}), counts[0])
		r := bytes.Repeat(told(api.Record{}), 65-counts[0])
		checkBoth(t, slices.Concat(headOfCounts(counts...), q, r), wrong(api.ErrBig, 4))
		// As many as may be, where none is.
		counts[i] = 64
		checkBoth(t, headOfCounts(counts...), wrong(api.ErrShort, 12))
	}
}

// All together: as many as may be, one more, and sums that would wrap round in two bytes.
func TestTogether(t *testing.T) {
	for _, r := range []struct {
		counts [4]int
		many   bool
	}{
		{[4]int{16, 16, 16, 16}, false}, {[4]int{17, 16, 16, 16}, true}, {[4]int{16, 17, 16, 16}, true}, {[4]int{16, 16, 17, 16}, true}, {[4]int{16, 16, 16, 17}, true},
		{[4]int{64, 0, 0, 0}, false}, {[4]int{64, 1, 0, 0}, true}, {[4]int{64, 0, 1, 0}, true}, {[4]int{64, 0, 0, 1}, true},
		{[4]int{1, 63, 0, 0}, false}, {[4]int{0, 63, 1, 0}, false}, {[4]int{0, 0, 63, 1}, false}, {[4]int{1, 0, 0, 63}, false},
		{[4]int{1, 64, 0, 0}, true}, {[4]int{0, 1, 64, 0}, true}, {[4]int{0, 0, 1, 64}, true}, {[4]int{64, 64, 64, 64}, true}, {[4]int{20, 20, 20, 4}, false}, {[4]int{20, 20, 20, 5}, true},
		{[4]int{65_535, 1, 0, 0}, true}, {[4]int{0, 65_535, 1, 0}, true}, {[4]int{1, 0, 0, 65_535}, true}, {[4]int{32_768, 32_768, 0, 0}, true}, {[4]int{16_384, 16_384, 16_384, 16_384}, true}, {[4]int{65_535, 65_535, 65_535, 65_535}, true}, {[4]int{65_535, 65_535, 2, 0}, true}, {[4]int{0, 0, 32_768, 32_800}, true},
	} {
		head := headOfCounts(r.counts[:]...)
		if r.many {
			checkBoth(t, head, wrong(api.ErrBig, 4))
			checkBoth(t, append(head, make([]byte, 900)...), wrong(api.ErrBig, 4))
			continue
		}
		checkBoth(t, head, wrong(api.ErrShort, 12))
		m := withCounts(r.counts[0], r.counts[1], r.counts[2], r.counts[3])
		checkBoth(t, bytesOf(m), answer{m: m})
		checkWritten(t, m)
	}
}

// Which byte of the head says how many there are of what.
func TestEachCount(t *testing.T) {
	for at := 4; at < 12; at++ {
		for _, v := range []byte{1, 64, 65, 255} {
			b := make([]byte, 12)
			b[at] = v
			if at%2 == 0 || v > 64 {
				checkBoth(t, b, wrong(api.ErrBig, 4))
			} else {
				checkBoth(t, b, wrong(api.ErrShort, 12))
			}
		}
	}
}

// part of a message that is wrong, and where in it that is told.
type part struct {
	b     []byte
	code  api.Errno
	place int
}

// wrongNames: what is no name, wherever it stands.
func wrongNames() []part {
	wide := strings.Repeat("x", 63)
	return []part{
		{[]byte{64}, api.ErrLabel, 0}, {[]byte{191}, api.ErrLabel, 0}, {[]byte{1, ' ', 0}, api.ErrLabel, 0}, {[]byte{1, 'a', 1, '.', 0}, api.ErrLabel, 2}, {[]byte{1, 'a', 128}, api.ErrLabel, 2},
		{[]byte{255, 255}, api.ErrPointer, 0}, {[]byte{1, 'a', 255, 255}, api.ErrPointer, 2},
		{host(strings.Join([]string{wide, wide, wide, wide}, ".")), api.ErrName, 192},
	}
}

// wrongRecords: what is no record, wherever it stands.
func wrongRecords() []part {
	a := append(host("a"), 0)[:3]
	l := []part{
		{slices.Concat(a, tail(1, 1, 5, 1, 2, 3)), api.ErrLength, 11},
		{slices.Concat(a, tail(1, 1, 5, 1, 2, 3, 4, 5)), api.ErrLength, 11},
		{slices.Concat(a, tail(28, 1, 5, counting(1, 15)...)), api.ErrLength, 11},
		{slices.Concat(a, tail(28, 1, 5)), api.ErrLength, 11},
		{slices.Concat(a, tail(5, 1, 5, 0, 0)), api.ErrLength, 11},
		{slices.Concat(a, tail(5, 1, 5, 1, 'x', 64)), api.ErrLabel, 15},
		{slices.Concat(a, tail(5, 1, 5, 255, 255)), api.ErrPointer, 13},
		{slices.Concat(a, []byte{0, 16, 0, 1, 0, 0, 0, 5, 255, 255}), api.ErrShort, 11},
	}
	for _, p := range wrongNames() {
		l = append(l, p)
		l = append(l, part{slices.Concat(a, tail(5, 1, 5, p.b...)), p.code, 13 + p.place})
	}
	return l
}

// What is wrong in the first, a middle, and the last one of each list is told as it is there, by its place in the message.
func TestFaultsInEachList(t *testing.T) {
	for list := range 4 {
		faults := wrongRecords()
		if list == 0 {
			faults = wrongNames()
		}
		for which := range 3 {
			counts := []int{3, 3, 3, 3}
			m := withCounts(3, 3, 3, 3)
			ahead := bytesOf(m)[12:]
			n := 12 // to the part that is wrong
			for i, q := range m.Questions {
				if list > 0 || i < which {
					n += len(ask(q))
				}
			}
			for s, l := range sections(&m) {
				for i, r := range *l {
					if list > s+1 || list == s+1 && i < which {
						n += len(told(r))
					}
				}
			}
			for _, f := range faults {
				for _, behind := range [][]byte{nil, {0}, make([]byte, 40), ahead} {
					b := slices.Concat(headOfCounts(counts...), ahead[:n-12], f.b, behind)
					checkBoth(t, b, wrong(f.code, n+f.place))
				}
			}
			// And that it is not there at all.
			checkBoth(t, slices.Concat(headOfCounts(counts...), ahead[:n-12]), wrong(api.ErrShort, n))
		}
	}
}

// A question is no record, and a record is none of the questions: each list is read as what it is of.
func TestListsAreOfTheirKind(t *testing.T) {
	q, r := ask(api.Question{Name: "a", Type: 16, Class: 1}), told(api.Record{Name: "a", Type: 16, Class: 1, Ttl: 5, Data: []byte{7}})
	for i := 1; i < 4; i++ {
		counts := make([]int, 4)
		counts[i] = 1
		checkBoth(t, slices.Concat(headOfCounts(counts...), q), wrong(api.ErrShort, 19))
		checkBoth(t, slices.Concat(headOfCounts(counts...), r, q), wrong(api.ErrLength, 26))
		counts[0] = 1
		// Behind the first seven bytes of r there is the root's record of type 0, with no data.
		checkBoth(t, slices.Concat(headOfCounts(counts...), r, q), wrong(api.ErrLength, 30))
		checkBoth(t, slices.Concat(headOfCounts(counts...), q, q), wrong(api.ErrShort, 26))
	}
	checkBoth(t, slices.Concat(headOfCounts(1), r), wrong(api.ErrLength, 19))
}

// Bytes behind the last one of all.
func TestBehind(t *testing.T) {
	for _, m := range rights() {
		b := bytesOf(m)
		for _, n := range []int{1, 2, 5, 12, 200} {
			for _, fill := range []byte{0, 1, 64, 192, 255} {
				checkBoth(t, slices.Concat(b, bytes.Repeat([]byte{fill}, n)), wrong(api.ErrLength, len(b)))
			}
		}
		if 2*len(b) <= 4_000 {
			checkBoth(t, slices.Concat(b, b), wrong(api.ErrLength, len(b)))
		}
		checkBoth(t, slices.Concat(b, make([]byte, 4_000-len(b))), answerBehind(m, len(b)))
		checkBoth(t, slices.Concat(b, make([]byte, 4_001-len(b))), wrong(api.ErrBig, noPlace))
	}
}

// answerBehind: of m with what fills it up to as many bytes as may be.
func answerBehind(m api.Message, n int) answer {
	if n == 4_000 {
		return answer{m: m}
	}
	return wrong(api.ErrLength, n)
}

// A message cut at each byte: what is missing is told where it should be.
func TestCut(t *testing.T) {
	b := slices.Concat(
		[]byte{1, 2, 3, 4, 0, 1, 0, 1, 0, 1, 0, 1},
		[]byte{2, 'a', 'b', 1, 'c', 0, 0, 1, 0, 1},                                // 12: labels at 12 and 15, the end at 17, a type at 18, a class at 20
		[]byte{192, 12, 0, 5, 0, 1, 0, 0, 0, 5, 0, 5, 2, 'd', 'e', 192, 15},       // 22: a pointer, a type at 24, a class at 26, a ttl at 28, a length at 32
		[]byte{1, 'f', 192, 34, 0, 1, 0, 1, 0, 0, 0, 5, 0, 4, 10, 1, 2, 3},        // 39: a label, a pointer at 41, and so on at 43, 45, 47, 51
		slices.Concat([]byte{0, 0, 28, 0, 1, 0, 0, 0, 5, 0, 16}, counting(1, 16)), // 57: the end, and so on at 58, 60, 62, 66
	)
	starts := []int{0, 12, 15, 17, 18, 20, 22, 24, 26, 28, 32, 39, 41, 43, 45, 47, 51, 57, 58, 60, 62, 66}
	for n := range b {
		place := 0
		for _, s := range starts {
			if n >= s && n >= 12 {
				place = s
			}
		}
		checkBoth(t, b[:n], wrong(api.ErrShort, place))
		checkBoth(t, bytes.Clone(b[:n]), wrong(api.ErrShort, place))
	}
	checkBoth(t, b, answer{m: api.Message{Id: 258, Opcode: 0, Flags: 48, Code: 4, Questions: []api.Question{{Name: "ab.c", Type: 1, Class: 1}},
		Answers:   []api.Record{{Name: "ab.c", Type: 5, Class: 1, Ttl: 5, Target: "de.c"}},
		Authority: []api.Record{{Name: "f.de.c", Type: 1, Class: 1, Ttl: 5, Addr: v4(10, 1, 2, 3)}},
		Extra:     []api.Record{{Type: 28, Class: 1, Ttl: 5, Addr: v6(counting(1, 16)...)}}}})
}

func TestCutOfAny(t *testing.T) {
	for _, m := range rights() {
		b := bytesOf(m)
		for n := range b {
			if len(b) < 900 || n%7 == 0 || n > len(b)-20 {
				w := expected(b[:n])
				if w.code != api.ErrShort {
					t.Fatalf("the tests' own answer of %d of %d bytes: %+v", n, len(b), w)
				}
				checkParse(t, b[:n], w)
			}
		}
	}
}

// Names that lead back to names ahead in the message: within a list, and across them.
func TestNamesThatLeadBack(t *testing.T) {
	b := slices.Concat(
		headOfCounts(2, 2, 1, 2),
		[]byte{3, 'W', 'w', 'w', 7, 'e', 'x', 'a', 'm', 'p', 'l', 'e', 0, 0, 1, 0, 1}, // 12: its labels at 12 and 16, its end at 24
		[]byte{192, 16, 0, 28, 0, 1}, // 29: the second label
		[]byte{192, 12, 0, 5, 0, 1, 0, 0, 0, 5, 0, 6, 3, 'c', 'd', 'n', 192, 29}, // 35: the question's name; a target, at 47, that ends with a pointer at 51 to a pointer
		[]byte{192, 47, 0, 16, 0, 1, 0, 0, 0, 6, 0, 4, 1, 'z', 192, 16},          // 53: the target; data, at 65, that is none of a name, but may be read as one
		[]byte{2, 'n', 's', 192, 65, 0, 1, 0, 1, 0, 0, 0, 7, 0, 4, 10, 1, 2, 3},  // 69: that data
		[]byte{192, 69, 0, 5, 0, 1, 0, 0, 0, 8, 0, 2, 192, 24},                   // 88: the authority's name; the end of the question's name as a target
		[]byte{192, 0, 0, 9, 0, 1, 0, 0, 0, 9, 0, 1, 5},                          // 102: the head, of which the first byte ends it
	)
	m := api.Message{
		Questions: []api.Question{{Name: "www.example", Type: 1, Class: 1}, {Name: "example", Type: 28, Class: 1}},
		Answers:   []api.Record{{Name: "www.example", Type: 5, Class: 1, Ttl: 5, Target: "cdn.example"}, {Name: "cdn.example", Type: 16, Class: 1, Ttl: 6, Data: []byte{1, 'z', 192, 16}}},
		Authority: []api.Record{{Name: "ns.z.example", Type: 1, Class: 1, Ttl: 7, Addr: v4(10, 1, 2, 3)}},
		Extra:     []api.Record{{Name: "ns.z.example", Type: 5, Class: 1, Ttl: 8}, {Type: 9, Class: 1, Ttl: 9, Data: []byte{5}}},
	}
	checkBoth(t, b, answer{m: m})
	checkWritten(t, m)
	// A pointer that leads ahead, to itself, or behind is wrong, in its place in the message.
	for _, r := range []struct{ at, to, place int }{
		{29, 29, 29}, {29, 30, 29}, {35, 35, 35}, {35, 88, 35}, {51, 47, 51}, {51, 51, 51}, {53, 53, 53}, {72, 69, 72}, {88, 88, 88}, {88, 102, 88}, {100, 100, 100}, {102, 102, 102}, {102, 16_383, 102},
	} {
		c := bytes.Clone(b)
		c[r.at], c[r.at+1] = byte(192+r.to/256), byte(r.to%256)
		checkBoth(t, c, wrong(api.ErrPointer, r.place))
	}
}

// A name may lead into the head: its bytes are as good as others.
func TestNameInTheHead(t *testing.T) {
	b := slices.Concat([]byte{1, 'X', 0, 1}, two(0), two(1), two(0), two(0), []byte{192, 0, 0, 16, 0, 1, 0, 0, 0, 5, 0, 0})
	checkBoth(t, b, answer{m: api.Message{Id: 256 + 'X', Code: 1, Answers: []api.Record{{Name: "x", Type: 16, Class: 1, Ttl: 5}}}})
	b[2] = 64
	checkBoth(t, b, wrong(api.ErrLabel, 2))
}

// Pointers to pointers, as many as there is room for.
func TestManyPointers(t *testing.T) {
	// The data of the first record, from 23 on: the end of a name, and pointers, each of which leads to the one ahead of it.
	data, at := []byte{0}, 24
	for ; at < 3_000; at += 2 {
		data = append(data, two(192*256+max(at-2, 23))...)
	}
	b := slices.Concat(headOfCounts(0, 1, 1), []byte{0}, tail(16, 1, 5, data...), []byte{1, 'a'}, two(192*256+at-2), tail(16, 1, 5))
	checkBoth(t, b, answer{m: api.Message{Answers: []api.Record{{Type: 16, Class: 1, Ttl: 5, Data: data}}, Authority: []api.Record{{Name: "a", Type: 16, Class: 1, Ttl: 5}}}})
}

// Of several faults the one that is named first is told.
func TestOrderOfFaults(t *testing.T) {
	q, bad := ask(api.Question{Name: "a"}), []byte{64, 0, 0, 0, 0}
	short := slices.Concat([]byte{0}, tail(1, 1, 5, 1, 2, 3))
	for _, r := range []struct {
		b    []byte
		want answer
	}{
		{bytes.Repeat([]byte{255}, 4_001), wrong(api.ErrBig, noPlace)},                                                  // all bytes, then how many there are
		{append(headOfCounts(1), bytes.Repeat([]byte{64}, 4_000)...), wrong(api.ErrBig, noPlace)},                       // all bytes, then a question
		{bytes.Repeat([]byte{255}, 11), wrong(api.ErrShort, 0)},                                                         // the head, then how many there are
		{append(headOfCounts(65), 64), wrong(api.ErrBig, 4)},                                                            // how many there are, then a question
		{append(headOfCounts(0, 0, 0, 65), 64), wrong(api.ErrBig, 4)},                                                   // the same
		{slices.Concat(headOfCounts(1, 64), bad), wrong(api.ErrBig, 4)},                                                 // the same
		{append(headOfCounts(60, 5), 64), wrong(api.ErrBig, 4)},                                                         // the same
		{slices.Concat(headOfCounts(1, 1), bad, short), wrong(api.ErrLabel, 12)},                                        // a question, then an answer
		{slices.Concat(headOfCounts(2), q, bad, bad), wrong(api.ErrLabel, 19)},                                          // a question, then what is behind
		{slices.Concat(headOfCounts(0, 1, 1, 1), short, bad, bad), wrong(api.ErrLength, 21)},                            // an answer, then the others
		{slices.Concat(headOfCounts(1, 1, 1), q, short, bad), wrong(api.ErrLength, 28)},                                 // the same
		{slices.Concat(headOfCounts(0, 0, 1, 1), bad, short), wrong(api.ErrLabel, 12)},                                  // the authority, then the extra
		{slices.Concat(headOfCounts(0, 0, 0, 1), short, []byte{9, 9}), wrong(api.ErrLength, 21)},                        // the extra, then what is behind
		{slices.Concat(headOfCounts(0, 0, 0, 2), told(api.Record{}), bad, bad, bad, bad), wrong(api.ErrLabel, 23)},      // the same
		{slices.Concat(headOfCounts(0, 2), short, []byte{255, 255}), wrong(api.ErrLength, 21)},                          // an answer, then the next one
		{slices.Concat(headOfCounts(0, 64), bytes.Repeat(told(api.Record{}), 63), bad), wrong(api.ErrLabel, 705)},       // the last one of as many as may be
		{slices.Concat(headOfCounts(0, 64), bytes.Repeat(told(api.Record{}), 64), bad), wrong(api.ErrLength, 716)},      // what is behind it
		{slices.Concat(headOfCounts(0, 0, 1, 1), told(api.Record{}), told(api.Record{})[:10]), wrong(api.ErrShort, 32)}, // the extra, of which one byte is missing
	} {
		checkBoth(t, r.b, r.want)
	}
	// Of Write: what may not be, then how much it is.
	big := api.Record{Name: "a", Type: 16, Data: make([]byte, 1_000)}
	for _, m := range []api.Message{
		{Id: -1, Answers: []api.Record{big, big, big, big, big}},
		{Opcode: 16, Extra: []api.Record{big, big, big, big, big}},
		{Answers: []api.Record{big, big, big, big, big}, Extra: []api.Record{{Name: "."}}},
		{Answers: []api.Record{big, big, big, big, {Type: -1}}},
		{Authority: []api.Record{big, big, big, big, big}, Questions: []api.Question{{Name: "A"}}},
		{Authority: slices.Repeat([]api.Record{big}, 65)},
	} {
		checkNone(t, m, api.ErrArg)
	}
	checkNone(t, api.Message{Answers: []api.Record{big, big, big, big, big}}, api.ErrBig)
}

// Each field of Write below its bounds, at them, and above, of messages that may be otherwise.
func TestWriteFields(t *testing.T) {
	far := []int{-1, -2, -16, -128, -65_535, -65_536, math.MinInt32, math.MinInt, math.MinInt + 1, 65_536, 65_537, 1 << 20, math.MaxInt32, 1 << 32, math.MaxInt - 1, math.MaxInt}
	for _, m := range rights() {
		for _, f := range []struct {
			of   func(*api.Message) *int
			most int
		}{
			{func(m *api.Message) *int { return &m.Id }, 65_535},
			{func(m *api.Message) *int { return &m.Opcode }, 15},
			{func(m *api.Message) *int { return &m.Code }, 15},
			{func(m *api.Message) *int { return &m.Flags }, 127},
		} {
			for _, v := range append([]int{f.most + 1, f.most + 2, 2*f.most + 2}, far...) {
				n := m
				*f.of(&n) = v
				checkNone(t, n, api.ErrArg)
			}
			for _, v := range []int{0, 1, f.most / 2, f.most/2 + 1, f.most - 1, f.most} {
				n := m
				*f.of(&n) = v
				checkWritten(t, n)
			}
		}
		n := m
		n.Reply = !m.Reply
		checkWritten(t, n)
	}
	// Two that are wrong do not make up for each other.
	for _, m := range []api.Message{{Opcode: -1, Flags: 128}, {Opcode: 16, Code: -1}, {Flags: -1, Code: 16}, {Id: 65_536, Opcode: -1}} {
		checkNone(t, m, api.ErrArg)
	}
}

// As many questions and records together as may be, and one more, in each list.
func TestWriteTooMany(t *testing.T) {
	for _, counts := range [][4]int{{64, 0, 0, 0}, {0, 64, 0, 0}, {0, 0, 64, 0}, {0, 0, 0, 64}, {16, 16, 16, 16}, {1, 2, 60, 1}, {20, 20, 20, 4}, {63, 0, 0, 1}} {
		checkWritten(t, withCounts(counts[0], counts[1], counts[2], counts[3]))
		for i := range counts {
			for _, n := range []int{1, 2, 64, 192, 1_000} {
				more := counts
				more[i] += n
				checkNone(t, withCounts(more[0], more[1], more[2], more[3]), api.ErrArg)
			}
			if counts[i] > 0 {
				fewer := counts
				fewer[i]--
				checkWritten(t, withCounts(fewer[0], fewer[1], fewer[2], fewer[3]))
			}
		}
	}
	// So many that they would wrap round in two bytes.
	for _, n := range []int{65_536, 65_537, 65_600} {
		checkNone(t, api.Message{Questions: make([]api.Question, n)}, api.ErrArg)
		checkNone(t, api.Message{Extra: make([]api.Record, n)}, api.ErrArg)
	}
}

// A question, and a record of each list, that may not be written, in each place there.
func TestWriteWhatMayNotBe(t *testing.T) {
	names := []string{".", "A", "a.", ".a", "a..b", "a b", "é", "x" + longest(), strings.Repeat("x", 64)}
	var asked []api.Question
	wrongs := []api.Record{
		{Type: -1}, {Type: 65_536}, {Class: -1}, {Class: 65_536}, {Type: 16, Data: make([]byte, 1_001)}, {Type: 1, Addr: v6()}, {Type: 28, Addr: v4(1)}, {Type: 28}, {Type: 1, Data: []byte{1}}, {Type: 1, Target: "a"},
		{Type: 5, Target: "A"}, {Type: 5, Addr: v4(1)}, {Type: 5, Data: []byte{1}}, {Type: 16, Target: "a"}, {Type: 16, Addr: v4(1)}, {Type: 1, Addr: api.Addr{B: [16]byte{4: 1}}},
	}
	for _, s := range names {
		asked = append(asked, api.Question{Name: s, Type: 1, Class: 1})
		wrongs = append(wrongs, api.Record{Name: s, Type: 16, Class: 1}, api.Record{Name: "a", Type: 5, Class: 1, Target: s})
	}
	asked = append(asked, api.Question{Type: -1}, api.Question{Type: 65_536}, api.Question{Class: -1}, api.Question{Class: 65_536}, api.Question{Type: math.MaxInt}, api.Question{Class: math.MinInt})
	for which := range 3 {
		for _, q := range asked {
			m := withCounts(3, 3, 3, 3)
			m.Questions[which] = q
			checkNone(t, m, api.ErrArg)
			checkNone(t, api.Message{Questions: []api.Question{q}}, api.ErrArg)
		}
		for _, r := range wrongs {
			for s := range 3 {
				m := withCounts(3, 3, 3, 3)
				(*sections(&m)[s])[which] = r
				checkNone(t, m, api.ErrArg)
				var alone api.Message
				*sections(&alone)[s] = []api.Record{r}
				checkNone(t, alone, api.ErrArg)
			}
		}
	}
	checkWritten(t, withCounts(3, 3, 3, 3))
}

// What is just as long as may be, and a byte longer, by what is in each list.
func TestWriteTooBig(t *testing.T) {
	fill := func(n int) api.Record { return api.Record{Name: "b", Type: 16, Class: 1, Ttl: 9, Data: counting(n, n)} }
	for list := range 4 {
		for _, n := range []int{-2, -1, 0, 1, 2, 11, 64} {
			// Of a message with three records of 1,000 bytes of data each: 12 + 3 * 1,013 bytes; 949 are left.
			m := api.Message{Id: 5}
			for s := range 3 {
				*sections(&m)[s] = []api.Record{fill(1_000)}
			}
			left := 949 + n
			if list > 0 {
				l := sections(&m)[list-1]
				*l = append(*l, fill(left-13))
			} else {
				for left > 255 {
					m.Questions, left = append(m.Questions, api.Question{Name: longName(96), Type: 1, Class: 1}), left-100
				}
				m.Questions = append(m.Questions, api.Question{Name: longName(left - 4), Type: 1, Class: 1})
			}
			if got := len(bytesOf(m)); got != 4_000+n {
				t.Fatalf("the tests' own message has %d bytes; want %d", got, 4_000+n)
			}
			if n > 0 {
				checkNone(t, m, api.ErrBig)
			} else {
				checkWritten(t, m)
			}
		}
	}
	whole := func(n int) api.Message {
		return api.Message{Answers: []api.Record{fill(1_000), fill(1_000)}, Extra: []api.Record{fill(1_000), fill(n)}}
	}
	checkWritten(t, whole(935))
	checkWritten(t, whole(936))
	checkNone(t, whole(937), api.ErrBig)
	checkNone(t, whole(938), api.ErrBig)
	checkNone(t, whole(1_000), api.ErrBig)
	// The most that may be in it: far more than fits.
	long := api.Record{Name: longest(), Type: 16, Data: make([]byte, 1_000)}
	checkNone(t, api.Message{Answers: slices.Repeat([]api.Record{long}, 64)}, api.ErrBig)
	checkNone(t, api.Message{Questions: slices.Repeat([]api.Question{{Name: longest()}}, 16)}, api.ErrBig)
	checkWritten(t, api.Message{Questions: slices.Repeat([]api.Question{{Name: longest()}}, 15)})
}

// longName: a name of n bytes as it is written, at most 255.
func longName(n int) string {
	n = min(n, 255) - 1
	var labels []string
	for n > 64 {
		labels, n = append(labels, strings.Repeat("y", 61)), n-62
	}
	if n > 1 {
		labels = append(labels, strings.Repeat("z", n-1))
	}
	return strings.Join(labels, ".")
}

// Questions alone, just as many bytes as may be.
func TestWriteTooBigQuestions(t *testing.T) {
	for n := 3_990; n <= 4_010; n++ {
		var m api.Message
		left := n - 12
		for left > 400 {
			m.Questions, left = append(m.Questions, api.Question{Name: longest(), Type: 1, Class: 1}), left-259
		}
		for left > 250 {
			m.Questions, left = append(m.Questions, api.Question{Name: longName(96), Type: 1, Class: 1}), left-100
		}
		m.Questions = append(m.Questions, api.Question{Name: longName(left - 4), Type: 1, Class: 1})
		if got := len(bytesOf(m)); got != n {
			t.Fatalf("the tests' own message has %d bytes; want %d", got, n)
		}
		if n > 4_000 {
			checkNone(t, m, api.ErrBig)
		} else {
			checkWritten(t, m)
		}
	}
}

func TestWriteByHand(t *testing.T) {
	for _, r := range []struct {
		m    api.Message
		want []byte
	}{
		{api.Message{}, make([]byte, 12)},
		{api.Message{Id: 0x1234, Reply: true, Opcode: 2, Flags: 0x55, Code: 3}, []byte{0x12, 0x34, 0x95, 0x53, 0, 0, 0, 0, 0, 0, 0, 0}},
		{api.Message{Flags: 16, Questions: []api.Question{{Name: "a.bc", Type: 258, Class: 1}}}, []byte{0, 0, 1, 0, 0, 1, 0, 0, 0, 0, 0, 0, 1, 'a', 2, 'b', 'c', 0, 1, 2, 0, 1}},
		{api.Message{Answers: []api.Record{{Name: "a", Type: 1, Class: 1, Ttl: 0x01020304, Addr: v4(10, 1, 2, 3)}}}, []byte{0, 0, 0, 0, 0, 0, 0, 1, 0, 0, 0, 0, 1, 'a', 0, 0, 1, 0, 1, 1, 2, 3, 4, 0, 4, 10, 1, 2, 3}},
		{api.Message{Authority: []api.Record{{Name: "a", Type: 5, Class: 1, Target: "b.a"}}}, []byte{0, 0, 0, 0, 0, 0, 0, 0, 0, 1, 0, 0, 1, 'a', 0, 0, 5, 0, 1, 0, 0, 0, 0, 0, 5, 1, 'b', 1, 'a', 0}},
		{api.Message{Extra: []api.Record{{Type: 41, Class: 4_096}, {Type: 16, Data: []byte{7}}}}, []byte{0, 0, 0, 0, 0, 0, 0, 0, 0, 0, 0, 2, 0, 0, 41, 16, 0, 0, 0, 0, 0, 0, 0, 0, 0, 16, 0, 0, 0, 0, 0, 0, 0, 1, 7}},
		{api.Message{Questions: []api.Question{{Type: 1}}, Answers: []api.Record{{Type: 2}}, Authority: []api.Record{{Type: 3}}, Extra: []api.Record{{Type: 4}}}, []byte{0, 0, 0, 0, 0, 1, 0, 1, 0, 1, 0, 1, 0, 0, 1, 0, 0, 0, 0, 2, 0, 0, 0, 0, 0, 0, 0, 0, 0, 0, 3, 0, 0, 0, 0, 0, 0, 0, 0, 0, 0, 4, 0, 0, 0, 0, 0, 0, 0, 0}},
	} {
		if b, e := Write(r.m); e != nil || !bytes.Equal(b, r.want) {
			t.Errorf("P14.1: Write of %+v: %v, %v; want %v", r.m, b, e, r.want)
		}
		checkWritten(t, r.m)
	}
}

// What may be written is, and is parsed; whatever room its lists have.
func TestWhatIsWrittenIsParsed(t *testing.T) {
	for _, m := range rights() {
		if code := expectedCode(m); code != 0 {
			t.Fatalf("the tests' own message %+v may not be: %d", m, code)
		}
		checkWritten(t, m)
		checkBoth(t, bytesOf(m), answer{m: m})
		for _, l := range sections(&m) {
			*l = append(make([]api.Record, 0, 70), *l...)
		}
		m.Questions = append(make([]api.Question, 0, 70), m.Questions...)
		checkWritten(t, m)
	}
	// nil and an empty list are the same.
	checkWritten(t, api.Message{Questions: []api.Question{}, Answers: []api.Record{}, Authority: []api.Record{}, Extra: []api.Record{}})
}

// turned: m, of which some fields are as the bytes p say, right or not.
func turned(m api.Message, p []byte) api.Message {
	m = copied(m)
	odd := []int{0, 1, 15, 16, -1, 127, 128, 65_535, 65_536}
	if p[0] < 60 {
		m.Id = odd[int(p[1])%len(odd)]
	}
	if p[2] < 60 {
		m.Opcode, m.Code = odd[int(p[3])%3], odd[int(p[4])%4]
	}
	if p[5] < 60 {
		m.Flags = odd[int(p[6])%len(odd)]
	}
	l := sections(&m)[p[7]%3]
	for range p[8] % 40 {
		*l = append(*l, records(64)[p[9]%64])
	}
	if len(*l) > 0 && p[10] < 60 {
		r := &(*l)[int(p[11])%len(*l)]
		r.Class, r.Data = odd[int(p[12])%len(odd)], counting(0, int(p[13])*int(p[14]%6))
	}
	if len(m.Questions) > 0 && p[15] < 60 {
		m.Questions[0].Type = odd[int(p[16])%len(odd)]
	}
	return m
}

func TestWriteOfAnything(t *testing.T) {
	seed := uint32(11)
	counts := map[api.Errno]int{}
	for range 400 {
		for _, m := range rights()[9:17] {
			n := turned(m, random(&seed, 17))
			counts[expectedCode(n)]++
			checkWrite(t, n)
		}
	}
	if counts[0] < 500 || counts[api.ErrArg] < 500 {
		t.Fatalf("the tests' own messages: %v", counts)
	}
}

// What is parsed, also by way of pointers and of capitals, and may be written, is parsed as it was.
func TestWhatIsParsedIsWritten(t *testing.T) {
	seed, writes := uint32(3), 0
	for range 4_000 {
		p := random(&seed, 60)
		b := slices.Concat(p[:4], two(1), two(int(p[4]%3)), two(int(p[5]%3)), two(int(p[6]%3)), []byte{1, 'Q', 2, 'z', '*', 0}, p[7:11])
		n := int(p[4]%3) + int(p[5]%3) + int(p[6]%3)
		for i := range n {
			lead := [][]byte{{192, 12}, {1, 'W', 192, 14}, {0}, {3, 'f', 'O', 'o', 0}}[p[12+i]%4]
			target := [][]byte{{192, 12}, {1, 'Z', 192, 14}, {2, 'Z', 'z', 0}, {0}}[p[20+i]%4]
			kind, data := []int{1, 28, 5, 16, 258}[p[30+i]%5], [][]byte{p[40:44], p[40:56], target, p[40 : 40+p[20+i]%20], nil}[p[30+i]%5]
			b = slices.Concat(b, lead, tail(kind, int(p[10]), uint32(p[11])<<(p[12]%25), data...))
		}
		checkRead(t, b)
		m, e := Parse(b)
		if e != nil {
			t.Fatalf("P14.1: Parse of %v: %v", b, e)
		}
		if expectedCode(m) == 0 {
			writes++
		}
		checkWrite(t, m)
	}
	if writes < 3_900 {
		t.Fatalf("the tests' own messages: only %d may be written", writes)
	}
}

// What is parsed, but may not be written: too much data, or names that were short by their pointers.
func TestWhatIsParsedAndNotWritten(t *testing.T) {
	m := api.Message{Answers: []api.Record{{Type: 16, Data: counting(0, 1_001)}}}
	checkBoth(t, bytesOf(m), answer{m: m})
	checkNone(t, m, api.ErrArg)
	b := headOfCounts(20)
	b = append(b, ask(api.Question{Name: longest()})...)
	b = append(b, bytes.Repeat([]byte{192, 12, 0, 0, 0, 0}, 19)...)
	m = api.Message{Questions: slices.Repeat([]api.Question{{Name: longest()}}, 20)}
	checkBoth(t, b, answer{m: m})
	checkNone(t, m, api.ErrBig)
}

// Each short text behind a head of small counts.
func TestShortTexts(t *testing.T) {
	signs := []byte{0, 1, 'A', 192}
	tail := make([]byte, 6)
	for v := range 4 * 4 * 4 * 4 * 4 * 4 {
		for i := range tail {
			tail[i], v = signs[v%4], v/4
		}
		for n := range len(tail) + 1 {
			checkRead(t, slices.Concat(headOfCounts(1), tail[:n]))
		}
		checkRead(t, slices.Concat(headOfCounts(2, 0, 0, 0), []byte{1, 'b', 0, 0, 5, 0, 1}, tail[:5]))
		checkRead(t, slices.Concat(headOfCounts(0, 0, 1, 0), tail[:2], []byte{0, 5, 0, 1, 0, 0, 0, 5}, tail[2:]))
	}
}

func TestOfAnything(t *testing.T) {
	seed := uint32(1)
	for range 30_000 {
		b := random(&seed, int(random(&seed, 1)[0]%80))
		checkRead(t, b)
		if len(b) >= 12 {
			// With few of each, or none.
			for i := 4; i < 12; i++ {
				b[i] = b[i] % 3 * byte(i%2)
			}
			checkRead(t, b)
		}
	}
	// With some bytes of real messages turned.
	for range 300 {
		for _, m := range rights() {
			b := bytesOf(m)
			for range 1 + random(&seed, 1)[0]%4 {
				p := random(&seed, 3)
				b[(256*int(p[0])+int(p[1]))%min(len(b), 400)] = p[2]
			}
			checkRead(t, b)
		}
	}
}

// What stands in the room behind the end is not read, and not written on.
func TestRoomBehindTheEnd(t *testing.T) {
	for _, m := range rights()[:7] {
		whole := slices.Concat(bytesOf(m), bytesOf(m))
		for size := range min(len(whole), 200) + 1 {
			b := bytes.Clone(whole)
			checkParse(t, b[:size], expected(bytes.Clone(whole[:size])))
			if !bytes.Equal(b, whole) {
				t.Fatalf("R3: what stands behind %d bytes was written on", size)
			}
		}
	}
	all := withCounts(8, 8, 8, 8)
	before := copied(all)
	part := all
	part.Questions = all.Questions[:2]
	for _, l := range sections(&part) {
		*l = (*l)[:3]
	}
	checkWritten(t, part)
	data := bytes.Repeat([]byte{9}, 40)
	checkWritten(t, api.Message{Answers: []api.Record{{Type: 16, Data: data[:4]}, {Type: 16, Data: data[4:8]}}})
	if !same(all, before) || !bytes.Equal(data, bytes.Repeat([]byte{9}, 40)) {
		t.Fatalf("R3: what stands behind the lists that were handed in was written on: %+v, %v", all, data)
	}
}

// fill: what stands in b, and in the room behind its end, is another.
func fill(b []byte, v byte) {
	b = b[:cap(b)]
	for i := range b {
		b[i] = v
	}
}

// fillAll: the same of all that is in m's lists, and in the room behind their ends.
func fillAll(m api.Message) {
	for i, l := 0, m.Questions[:cap(m.Questions)]; i < len(l); i++ {
		l[i] = api.Question{Name: "gone"}
	}
	for _, l := range sections(&m) {
		all := (*l)[:cap(*l)]
		for i := range all {
			fill(all[i].Data, 'x')
			all[i] = api.Record{Name: "gone"}
		}
	}
}

func TestAnswersAreNew(t *testing.T) {
	for _, m := range rights() {
		want, given := bytesOf(m), copied(m)
		held, _ := Write(given)
		next, _ := Write(given)
		fill(next, 'x')
		if !same(given, m) {
			t.Fatalf("R3: who writes into an answer of Write changes what was handed in: %+v", given)
		}
		fillAll(given)
		if !bytes.Equal(held, want) {
			t.Fatalf("R3: who writes into a message, or into another answer of Write, changes an answer: %v", held)
		}
		b := bytes.Clone(want)
		one, _ := Parse(b)
		two, _ := Parse(b)
		fillAll(two)
		if !same(one, m) || !bytes.Equal(b, want) {
			t.Fatalf("R3: who writes into an answer of Parse changes another, or what was handed in: %+v, %v", one, b)
		}
		fill(b, 'z')
		if !same(one, m) {
			t.Fatalf("R3: who writes into what Parse was given changes its answer: %+v", one)
		}
	}
}

// No two lists of one answer share any memory, not even the room behind their ends.
func TestListsAreApart(t *testing.T) {
	m := api.Message{Questions: questions(3), Answers: records(3), Authority: records(5), Extra: records(7)}
	for _, l := range sections(&m) {
		for i := range *l {
			(*l)[i] = api.Record{Name: "a", Type: 16, Data: counting(i, 9)}
		}
	}
	b := bytesOf(m)
	for s := range 3 {
		for i := range len(*sections(&m)[s]) {
			got, _ := Parse(b)
			l := *sections(&got)[s]
			fill(l[i].Data, 'x')
			l[i].Data = counting(i, 9)
			if !same(got, m) {
				t.Fatalf("R3: who writes into the data of one record changes another: %+v", got)
			}
			_ = append(l, api.Record{Name: "more"}, api.Record{Name: "more"})
			_ = append(got.Questions, api.Question{Name: "more"})
			if !same(got, m) {
				t.Fatalf("R3: who puts more behind one list changes another: %+v", got)
			}
		}
	}
}

func TestErrorsAreNew(t *testing.T) {
	for _, b := range [][]byte{nil, make([]byte, 11), make([]byte, 13), headOfCounts(65), headOfCounts(1), append(headOfCounts(1), 64), append(headOfCounts(0, 1), 192, 12), append(headOfCounts(0, 0, 1, 0), append([]byte{0}, tail(1, 1, 5, 3)...)...)} {
		w := expected(b)
		_, held := Parse(b)
		_, next := Parse(b)
		var f *api.Fault
		if !errors.As(next, &f) {
			t.Fatalf("R4: %v: no place in it", next)
		}
		f.At, f.Err = 77, api.ErrSum
		if !is(held, w.code, w.place) {
			t.Errorf("R3: who writes into one error changes another: %v", held)
		}
		checkRead(t, b)
	}
}

func TestAnswersHangOnArgumentsAlone(t *testing.T) {
	for range 3 {
		for _, m := range rights() {
			b := bytesOf(m)
			checkBoth(t, b, answer{m: m})
			checkNone(t, api.Message{Id: -1}, api.ErrArg)
			checkParse(t, b[:len(b)-1], expected(b[:len(b)-1]))
			checkWritten(t, m)
			checkBoth(t, nil, wrong(api.ErrShort, 0))
			checkNone(t, api.Message{Extra: []api.Record{{Name: "a..b"}}}, api.ErrArg)
			checkBoth(t, headOfCounts(65), wrong(api.ErrBig, 4))
			checkWritten(t, api.Message{})
		}
	}
}
