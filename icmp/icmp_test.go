package icmp

import (
	"bytes"
	"errors"
	"math"
	"slices"
	"testing"

	"stockade/api"
	"stockade/fault"
)

// noPlace: of an error that says none.
const noPlace = -1

// is tells whether e is an error of that number at that place; of 0 whether there is none.
func is(e error, code api.Errno, at int) bool {
	if code == 0 {
		return e == nil
	}
	place, placed := fault.Place(e)
	if !placed {
		place = noPlace
	}
	return errors.Is(e, code) && fault.Code(e) == code && place == at
}

// way: from where to where a message goes.
type way struct{ src, dst api.Addr }

// v4, v6: addresses that begin with these bytes.
func v4(b ...byte) (a api.Addr) {
	copy(a.B[:4], b)
	return a
}

func v6(b ...byte) (a api.Addr) {
	a.V6 = true
	copy(a.B[:], b)
	return a
}

// ways: one of each version; a new list each time.
func ways() []way {
	return []way{
		{v4(10, 1, 2, 3), v4(9, 8, 7, 6)},
		{v6(0xfe, 0x80, 3, 0, 0, 0, 0, 0, 5, 0, 0, 0, 0, 0, 7, 1), v6(0x20, 1, 0xd, 0xb8, 0, 9, 0, 0, 0, 0, 0, 0, 0, 0, 0, 2)},
	}
}

// ends: those of the addresses of each version.
func ends() []way {
	low, high := v6(), v6(bytes.Repeat([]byte{255}, 16)...)
	return []way{
		{v4(), v4()}, {v4(255, 255, 255, 255), v4(255, 255, 255, 255)}, {v4(), v4(255, 255, 255, 255)},
		{low, low}, {high, high}, {high, low},
	}
}

// oddWays: such as no packet has: only src's version says what counts of them.
func oddWays() []way {
	long := api.Addr{B: [16]byte{1, 2, 3, 4, 5, 6, 7, 8, 9}}
	r := ways()
	return []way{{r[0].src, r[1].dst}, {r[1].src, r[0].dst}, {long, long}, {long, r[0].dst}, {r[0].src, long}, {long, r[1].src}, {r[1].src, long}}
}

// two: the number of the two bytes there.
func two(b []byte, at int) int {
	return 256*int(b[at]) + int(b[at+1])
}

// total: all numbers of two bytes of what is summed: of version 4 of b alone, of version 6 of the addresses, the length and the protocol, too.
func total(b []byte, w way) int {
	var p []byte
	if w.src.V6 {
		n := len(b)
		p = slices.Concat(w.src.B[:], w.dst.B[:], []byte{byte(n / 16_777_216), byte(n / 65_536), byte(n / 256), byte(n), 0, 0, 0, 58})
	}
	all := 0
	for i, v := range append(p, b...) {
		if i%2 == 0 {
			all += 256 * int(v)
		} else {
			all += int(v)
		}
	}
	return all
}

// isSummed: is the sum of b 0? That is where all numbers together, with what goes above two bytes added below, are 65,535: a multiple of it, but not 0 itself.
func isSummed(b []byte, w way) bool {
	all := total(b, w)
	return all > 0 && all%65_535 == 0
}

// summed: b with its sum put right.
func summed(b []byte, w way) []byte {
	b = bytes.Clone(b)
	b[2], b[3] = 0, 0
	all := total(b, w)
	for all > 65_535 {
		all = all/65_536 + all%65_536
	}
	b[2], b[3] = byte((65_535-all)/256), byte((65_535-all)%256)
	return b
}

// turned: b with bytes at places.
func turned(b []byte, at ...int) []byte {
	b = bytes.Clone(b)
	for i := 0; i < len(at); i += 2 {
		b[at[i]] = byte(at[i+1])
	}
	return b
}

// own, other: the protocol of the messages of a version, and that of the other one's.
func own(v6 bool) int {
	if v6 {
		return 58
	}
	return 1
}

func other(v6 bool) int {
	return own(!v6)
}

// expectedInner: what the promise says of Inner, sentence by sentence.
func expectedInner(b []byte, v6 bool) (w api.Tuple, code api.Errno, place int) {
	fewest, number := 28, 4
	if v6 {
		fewest, number = 48, 6
	}
	if len(b) < fewest {
		return w, api.ErrShort, 0
	}
	if int(b[0])/16 != number {
		return w, api.ErrVersion, 0
	}
	var proto, at, echo int
	var src, dst api.Addr
	if v6 {
		proto, at, echo = int(b[6]), 40, 128
		src.V6, dst.V6 = true, true
		copy(src.B[:], b[8:24])
		copy(dst.B[:], b[24:40])
	} else {
		at = int(b[0]) % 16 * 4
		if at < 20 || len(b)-at < 8 {
			return w, api.ErrLength, 0
		}
		if two(b, 6)%8_192 != 0 {
			return w, api.ErrFragment, 6
		}
		proto, echo = int(b[9]), 8
		copy(src.B[:], b[12:16])
		copy(dst.B[:], b[16:20])
	}
	if proto == 6 || proto == 17 {
		return api.Tuple{Src: src, Dst: dst, Proto: proto, SrcPort: two(b, at), DstPort: two(b, at+2)}, 0, 0
	}
	if proto != own(v6) || int(b[at]) != echo || b[at+1] != 0 {
		return w, api.ErrKind, at
	}
	return api.Tuple{Src: src, Dst: dst, Proto: proto, SrcPort: two(b, at+4), DstPort: two(b, at+4)}, 0, 0
}

// expected: what the promise says of Parse, sentence by sentence.
func expected(b []byte, w way) (c api.Control, code api.Errno, place int) {
	if len(b) < 8 {
		return c, api.ErrShort, 0
	}
	if !isSummed(b, w) {
		return c, api.ErrSum, 2
	}
	request, reply, wrongs := 8, 0, []int{3, 11, 12}
	if w.src.V6 {
		request, reply, wrongs = 128, 129, []int{1, 2, 3, 4}
	}
	of := int(b[0])
	if slices.Contains(wrongs, of) {
		inner, code, place := expectedInner(b[8:], w.src.V6)
		if code != 0 {
			return c, code, place + 8
		}
		return api.Control{Kind: api.Error, Inner: inner}, 0, 0
	}
	if of == request && b[1] == 0 {
		return api.Control{Kind: api.Request, Id: two(b, 4)}, 0, 0
	}
	if of == reply && b[1] == 0 {
		return api.Control{Kind: api.Reply, Id: two(b, 4)}, 0, 0
	}
	return api.Control{Kind: api.Else}, 0, 0
}

// checkParse holds Parse of b against the promise. As all checks it ends its test with the first fault: of many alike one says enough.
func checkParse(t *testing.T, b []byte, w way) {
	t.Helper()
	before := bytes.Clone(b)
	want, code, place := expected(b, w)
	c, e := Parse(b, w.src, w.dst)
	if c != want || !is(e, code, place) {
		t.Fatalf("P10.1: Parse of %v, %v: %+v, %v; want %+v, %d at %d", b, w, c, e, want, code, place)
	}
	if !bytes.Equal(b, before) {
		t.Fatalf("R3: Parse changed the %d bytes that were handed in", len(b))
	}
}

// checkError: Parse of b is just that error.
func checkError(t *testing.T, b []byte, w way, code api.Errno, place int) {
	t.Helper()
	if c, e := Parse(b, w.src, w.dst); c != (api.Control{}) || !is(e, code, place) {
		t.Fatalf("P10.1: Parse of %v, %v: %+v, %v; want %d at %d", b, w, c, e, code, place)
	}
	checkParse(t, b, w)
}

// checkRight: Parse of b is that message.
func checkRight(t *testing.T, b []byte, w way, want api.Control) {
	t.Helper()
	if c, e := Parse(b, w.src, w.dst); c != want || e != nil {
		t.Fatalf("P10.1: Parse of %v, %v: %+v, %v; want %+v", b, w, c, e, want)
	}
	checkParse(t, b, w)
}

// about: b, as what an error with that code is about, between w.
func about(b []byte, of, code int, w way) []byte {
	return summed(slices.Concat([]byte{byte(of), byte(code), 0, 0, 0, 0, 0, 0}, b), w)
}

// wrongs: the types of the errors of a version.
func wrongs(v6 bool) []int {
	if v6 {
		return []int{1, 2, 3, 4}
	}
	return []int{3, 11, 12}
}

// checkInner holds Inner of b against the promise, and, in each error, Parse of it.
func checkInner(t *testing.T, b []byte, v6 bool) {
	t.Helper()
	before := bytes.Clone(b)
	want, code, place := expectedInner(b, v6)
	w, e := Inner(b, v6)
	if w != want || !is(e, code, place) {
		t.Fatalf("P10.2: Inner of %v, %v: %+v, %v; want %+v, %d at %d", b, v6, w, e, want, code, place)
	}
	if !bytes.Equal(b, before) {
		t.Fatalf("R3: Inner changed the %d bytes that were handed in", len(b))
	}
	between := ways()[0]
	if v6 {
		between = ways()[1]
	}
	for i, of := range wrongs(v6) {
		if m := about(b, of, i, between); code != 0 {
			checkError(t, m, between, code, place+8)
		} else {
			checkRight(t, m, between, api.Control{Kind: api.Error, Inner: want})
		}
	}
}

// checkInnerError: Inner of b is just that error.
func checkInnerError(t *testing.T, b []byte, v6 bool, code api.Errno, place int) {
	t.Helper()
	if w, e := Inner(b, v6); w != (api.Tuple{}) || !is(e, code, place) {
		t.Fatalf("P10.2: Inner of %v, %v: %+v, %v; want %d at %d", b, v6, w, e, code, place)
	}
	checkInner(t, b, v6)
}

// checkInnerRight: Inner of b is that way.
func checkInnerRight(t *testing.T, b []byte, v6 bool, want api.Tuple) {
	t.Helper()
	if w, e := Inner(b, v6); w != want || e != nil {
		t.Fatalf("P10.2: Inner of %v, %v: %+v, %v; want %+v", b, v6, w, e, want)
	}
	checkInner(t, b, v6)
}

// message: of eight bytes.
func message(of, code int, w way) []byte {
	return summed([]byte{byte(of), byte(code), 0, 0, 0x12, 0x34, 0x56, 0x78}, w)
}

// request, reply: the types of a version's echoes.
func request(v6 bool) int {
	if v6 {
		return 128
	}
	return 8
}

func reply(v6 bool) int {
	if v6 {
		return 129
	}
	return 0
}

// packet: what an error is about, of that version and protocol, with these eight bytes behind a head without options.
func packet(v6 bool, proto int, behind ...byte) []byte {
	if v6 {
		b := []byte{0x6a, 0xbc, 0xde, 0xff, 9, 9, byte(proto), 3}
		return slices.Concat(b, ways()[1].dst.B[:], ways()[1].src.B[:], behind)
	}
	b := []byte{0x45, 7, 9, 9, 8, 8, 0x40, 0, 3, byte(proto), 5, 5}
	return slices.Concat(b, ways()[0].dst.B[:4], ways()[0].src.B[:4], behind)
}

// ported: such a packet of TCP or UDP; pinged: that of an echo that was asked for.
func ported(v6 bool, proto int) []byte {
	return packet(v6, proto, 0x12, 0x34, 0x56, 0x78, 0xff, 0xff, 0xff, 0xff)
}

func pinged(v6 bool) []byte {
	return packet(v6, own(v6), byte(request(v6)), 0, 0xff, 0xff, 0x9a, 0xbc, 0xff, 0xff)
}

// tuple: the way of such packets.
func tuple(v6 bool, proto, from, to int) api.Tuple {
	w := ways()[0]
	if v6 {
		w = ways()[1]
	}
	return api.Tuple{Src: w.dst, Dst: w.src, Proto: proto, SrcPort: from, DstPort: to}
}

// versions: is it version 6?
func versions() []bool {
	return []bool{false, true}
}

// lengthened: a packet of version 4 with so many words of options in its head.
func lengthened(b []byte, words int) []byte {
	return slices.Concat([]byte{b[0] + byte(words)}, b[1:20], bytes.Repeat([]byte{0x11}, 4*words), b[20:])
}

func TestExample(t *testing.T) {
	for _, w := range slices.Concat(ways(), ends(), oddWays()) {
		for _, b := range [][]byte{nil, {}, make([]byte, 0, 50), message(8, 0, w)[:0]} {
			checkError(t, b, w, api.ErrShort, 0)
		}
	}
}

// Messages, and the sum of each, that were worked out by hand, so that the tests' own answers are held against something, too.
func TestByHand(t *testing.T) {
	short, long := way{v4(10, 1, 2, 3), v4(9, 8, 7, 6)}, way{v6(0xfe, 0x80, 0, 0, 0, 0, 0, 0, 0, 0, 0, 0, 0, 0, 0, 1), v6(0, 0, 0, 0, 0, 0, 0, 0, 0, 0, 0, 0, 0, 0, 0, 2)}
	for _, r := range []struct {
		w way
		c api.Control
		b []byte
	}{
		// 0800 + 1234.
		{short, api.Control{Kind: api.Request, Id: 0x1234}, []byte{8, 0, 0xe5, 0xcb, 0x12, 0x34, 0, 0}},
		// 1234.
		{short, api.Control{Kind: api.Reply, Id: 0x1234}, []byte{0, 0, 0xed, 0xcb, 0x12, 0x34, 0, 0}},
		// Nothing, and ffff: of both the numbers together are ffff or a multiple.
		{short, api.Control{Kind: api.Reply}, []byte{0, 0, 0xff, 0xff, 0, 0, 0, 0}},
		{short, api.Control{Kind: api.Reply, Id: 65_535}, []byte{0, 0, 0, 0, 255, 255, 0, 0}},
		// fe80 + 0001 + 0002 + 0008 + 003a + 8000 + 1234: 190f9, which is 90fa.
		{long, api.Control{Kind: api.Request, Id: 0x1234}, []byte{128, 0, 0x6f, 0x05, 0x12, 0x34, 0, 0}},
		// The same, and 0100 more: 91fa.
		{long, api.Control{Kind: api.Reply, Id: 0x1234}, []byte{129, 0, 0x6e, 0x05, 0x12, 0x34, 0, 0}},
		// 0300 + 4500 + 001c + 4011 + 0a01 + 0203 + 0908 + 0706 + 0001 + 0002: a442.
		{short, api.Control{Kind: api.Error, Inner: api.Tuple{Src: short.src, Dst: short.dst, Proto: api.Udp, SrcPort: 1, DstPort: 2}},
			[]byte{3, 0, 0x5b, 0xbd, 0, 0, 0, 0, 69, 0, 0, 28, 0, 0, 0, 0, 64, 17, 0, 0, 10, 1, 2, 3, 9, 8, 7, 6, 0, 1, 0, 2, 0, 0, 0, 0}},
		// 0300 + 4500 + 001c + 4001 + 0908 + 0706 + 0a01 + 0203 + 0800 + 0005: ac34.
		{short, api.Control{Kind: api.Error, Inner: api.Tuple{Src: short.dst, Dst: short.src, Proto: api.Icmp, SrcPort: 5, DstPort: 5}},
			[]byte{3, 0, 0x53, 0xcb, 0, 0, 0, 0, 69, 0, 0, 28, 0, 0, 0, 0, 64, 1, 0, 0, 9, 8, 7, 6, 10, 1, 2, 3, 8, 0, 0, 0, 0, 5, 0, 0}},
		// fe80 + 0001 + 0002 + 0038 + 003a, 0100 + 6000 + 0008 + 3a40 + fe80 + 0001 + 0002, 8000 + 0005: 318c5, which is 18c8.
		{long, api.Control{Kind: api.Error, Inner: api.Tuple{Src: long.src, Dst: long.dst, Proto: api.Icmp6, SrcPort: 5, DstPort: 5}},
			slices.Concat([]byte{1, 0, 0xe7, 0x37, 0, 0, 0, 0, 96, 0, 0, 0, 0, 8, 58, 64}, long.src.B[:], long.dst.B[:], []byte{128, 0, 0, 0, 0, 5, 0, 0})},
		// fe80 + 0001 + 0002 + 0038 + 003a, 0100 + 6000 + 0008 + 0640 + fe80 + 0001 + 0002, 1234 + 5678: 2cd6c, which is cd6e.
		{long, api.Control{Kind: api.Error, Inner: api.Tuple{Src: long.src, Dst: long.dst, Proto: api.Tcp, SrcPort: 0x1234, DstPort: 0x5678}},
			slices.Concat([]byte{1, 0, 0x32, 0x91, 0, 0, 0, 0, 96, 0, 0, 0, 0, 8, 6, 64}, long.src.B[:], long.dst.B[:], []byte{0x12, 0x34, 0x56, 0x78, 0, 0, 0, 0})},
	} {
		if b, e := Build(r.c, r.w.src, r.w.dst); e != nil || !bytes.Equal(b, r.b) {
			t.Errorf("P10.3: Build of %+v, %v: %v, %v; want %v", r.c, r.w, b, e, r.b)
		}
		checkBuild(t, r.c, r.w)
		checkRight(t, r.b, r.w, r.c)
		r.b[3] ^= 1
		checkError(t, r.b, r.w, api.ErrSum, 2)
	}
}

// Too few bytes are the first thing that is wrong, whatever is in them, and whatever stands behind their end.
func TestParseShort(t *testing.T) {
	for _, w := range slices.Concat(ways(), ends(), oddWays()) {
		for size := range 8 {
			for of := range 256 {
				whole := message(of, of%2, w)
				checkError(t, whole[:size], w, api.ErrShort, 0)
				checkError(t, bytes.Clone(whole[:size]), w, api.ErrShort, 0)
				checkError(t, bytes.Repeat([]byte{byte(of)}, size), w, api.ErrShort, 0)
				if size >= 4 {
					checkError(t, summed(whole[:size], w), w, api.ErrShort, 0)
				}
			}
		}
		checkRight(t, message(request(w.src.V6), 0, w), w, api.Control{Kind: api.Request, Id: 0x1234})
	}
}

// samples: a message of each kind and of each protocol that an error may be about.
func samples(w way) [][]byte {
	v6 := w.src.V6
	l := [][]byte{message(request(v6), 0, w), message(reply(v6), 0, w), message(77, 1, w), summed(append(message(reply(v6), 0, w), 1, 2, 3), w)}
	for _, of := range wrongs(v6) {
		for _, b := range [][]byte{ported(v6, api.Tcp), ported(v6, api.Udp), pinged(v6)} {
			l = append(l, about(b, of, 1, w))
		}
	}
	return l
}

// A message with a bit that was turned, whichever it is, has a wrong sum: its number changes by less than 65,535.
func TestParseEveryBit(t *testing.T) {
	for _, w := range slices.Concat(ways(), ends(), oddWays()) {
		for _, b := range samples(w) {
			checkParse(t, b, w)
			if _, e := Parse(b, w.src, w.dst); e != nil {
				t.Fatalf("P10.1: Parse of %v, %v: %v", b, w, e)
			}
			for bit := range 8 * len(b) {
				wrong := bytes.Clone(b)
				wrong[bit/8] ^= 1 << (bit % 8)
				checkError(t, wrong, w, api.ErrSum, 2)
				checkParse(t, summed(wrong, w), w)
			}
		}
	}
}

func TestParseEverySum(t *testing.T) {
	for _, w := range ways() {
		b := message(request(w.src.V6), 0, w)
		right := two(b, 2)
		for v := range 1 << 16 {
			b[2], b[3] = byte(v/256), byte(v%256)
			if v == right {
				checkRight(t, b, w, api.Control{Kind: api.Request, Id: 0x1234})
			} else {
				checkError(t, b, w, api.ErrSum, 2)
			}
		}
	}
}

// Bytes that are all 0 have the sum 65,535 in version 4; of both versions 0 and 65,535 stand for two sums.
func TestParseSumsOfNothing(t *testing.T) {
	for _, w := range ways() {
		for size := 8; size < 80; size++ {
			checkError(t, make([]byte, size), w, api.ErrSum, 2)
		}
	}
	w := ways()[0]
	checkRight(t, turned(make([]byte, 8), 2, 255, 3, 255), w, api.Control{Kind: api.Reply})
	checkRight(t, turned(make([]byte, 8), 4, 255, 5, 255), w, api.Control{Kind: api.Reply, Id: 65_535})
	checkRight(t, turned(make([]byte, 8), 2, 255, 3, 255, 4, 255, 5, 255), w, api.Control{Kind: api.Reply, Id: 65_535})
	checkRight(t, turned(make([]byte, 9), 8, 255, 3, 255, 4, 0), w, api.Control{Kind: api.Reply})
}

// Version 4 sums no addresses: only src's version counts of them. Version 6 sums both.
func TestParseSumsAddresses(t *testing.T) {
	for _, w := range slices.Concat(ways(), ends(), oddWays()) {
		for _, b := range samples(w) {
			want, _, _ := expected(b, w)
			checkParse(t, b, way{w.src, w.src})
			checkParse(t, b, way{w.dst, w.src})
			for bit := range 128 {
				for end := range 2 {
					to := w
					if end == 0 {
						to.src.B[bit/8] ^= 1 << (bit % 8)
					} else {
						to.dst.B[bit/8] ^= 1 << (bit % 8)
					}
					if w.src.V6 {
						checkError(t, b, to, api.ErrSum, 2)
					} else {
						checkRight(t, b, to, want)
					}
				}
			}
			other := w
			other.dst.V6 = !other.dst.V6
			checkRight(t, b, other, want)
		}
	}
}

// A message of version 6 with the sum that another protocol would make, or another version, is wrong; and the other way round.
func TestParseSumsTheProtocol(t *testing.T) {
	w := ways()[1]
	b := message(128, 0, w)
	right := two(b, 2)
	for proto := range 256 {
		v := right + 58 - proto
		b[2], b[3] = byte(v/256), byte(v%256)
		if proto == api.Icmp6 {
			checkRight(t, b, w, api.Control{Kind: api.Request, Id: 0x1234})
		} else {
			checkError(t, b, w, api.ErrSum, 2)
		}
	}
	for _, b := range samples(ways()[0]) {
		checkError(t, b, ways()[1], api.ErrSum, 2)
	}
	for _, b := range samples(ways()[1]) {
		checkError(t, b, ways()[0], api.ErrSum, 2)
	}
}

// Each type with each code: which of the four kinds it is. No errors here: these have nothing that they are about.
func TestParseTypes(t *testing.T) {
	for _, w := range slices.Concat(ways(), ends(), oddWays()) {
		v6 := w.src.V6
		for of := range 256 {
			for code := range 256 {
				b := message(of, code, w)
				switch {
				case slices.Contains(wrongs(v6), of):
					checkError(t, b, w, api.ErrShort, 8)
				case of == request(v6) && code == 0:
					checkRight(t, b, w, api.Control{Kind: api.Request, Id: 0x1234})
				case of == reply(v6) && code == 0:
					checkRight(t, b, w, api.Control{Kind: api.Reply, Id: 0x1234})
				default:
					checkRight(t, b, w, api.Control{Kind: api.Else})
				}
			}
		}
	}
}

// The same with what an error is about behind it: it is of no matter but in an error.
func TestParseTypesAboutSomething(t *testing.T) {
	for _, w := range ways() {
		v6 := w.src.V6
		for of := range 256 {
			for code := range 2 {
				b := about(ported(v6, api.Udp), of, code, w)
				switch {
				case slices.Contains(wrongs(v6), of):
					checkRight(t, b, w, api.Control{Kind: api.Error, Inner: tuple(v6, api.Udp, 0x1234, 0x5678)})
				case of == request(v6) && code == 0:
					checkRight(t, b, w, api.Control{Kind: api.Request})
				case of == reply(v6) && code == 0:
					checkRight(t, b, w, api.Control{Kind: api.Reply})
				default:
					checkRight(t, b, w, api.Control{Kind: api.Else})
				}
			}
		}
	}
}

// An error with each code, and whatever stands in its four bytes ahead of what it is about: they play no part.
func TestParseErrorCodes(t *testing.T) {
	for _, w := range ways() {
		v6 := w.src.V6
		for _, of := range wrongs(v6) {
			for code := range 256 {
				for at := 4; at < 8; at++ {
					b := summed(turned(about(ported(v6, api.Tcp), of, code, w), at, code), w)
					checkRight(t, b, w, api.Control{Kind: api.Error, Inner: tuple(v6, api.Tcp, 0x1234, 0x5678)})
				}
				checkRight(t, about(pinged(v6), of, code, w), w, api.Control{Kind: api.Error, Inner: tuple(v6, own(v6), 0x9abc, 0x9abc)})
				checkError(t, about(nil, of, code, w), w, api.ErrShort, 8)
			}
		}
	}
}

func TestParseIds(t *testing.T) {
	for _, w := range ways() {
		v6 := w.src.V6
		for v := range 1 << 16 {
			id := []int{4, v / 256, 5, v % 256}
			checkRight(t, summed(turned(message(request(v6), 0, w), id...), w), w, api.Control{Kind: api.Request, Id: v})
			checkRight(t, summed(turned(message(reply(v6), 0, w), id...), w), w, api.Control{Kind: api.Reply, Id: v})
			checkRight(t, summed(turned(message(reply(v6), 1, w), id...), w), w, api.Control{Kind: api.Else})
			checkRight(t, summed(turned(message(200, 0, w), id...), w), w, api.Control{Kind: api.Else})
			b := about(pinged(v6), wrongs(v6)[0], 0, w)
			checkRight(t, summed(turned(b, id...), w), w, api.Control{Kind: api.Error, Inner: tuple(v6, own(v6), 0x9abc, 0x9abc)})
		}
	}
}

// What stands behind an echo's number plays no part, but in the sum.
func TestParseBehindEchoes(t *testing.T) {
	for _, w := range ways() {
		for size := 8; size < 300; size++ {
			for _, of := range []int{request(w.src.V6), reply(w.src.V6)} {
				b := turned(bytes.Repeat([]byte{byte(size)}, size), 0, of, 1, 0, 4, 7, 5, 9)
				kind := api.Request
				if of == reply(w.src.V6) {
					kind = api.Reply
				}
				b = summed(b, w)
				checkRight(t, b, w, api.Control{Kind: kind, Id: 0x709})
				b[size-1] ^= 1
				checkError(t, b, w, api.ErrSum, 2)
			}
		}
	}
}

// Of more than one thing that is wrong the one that is named first is told.
func TestParseOrder(t *testing.T) {
	for _, w := range ways() {
		v6 := w.src.V6
		for _, of := range wrongs(v6) {
			for _, inner := range [][]byte{nil, ported(v6, 50), turned(ported(v6, 50), 0, 0), ported(!v6, api.Tcp), ported(v6, 50)[:27]} {
				b := about(inner, of, 0, w)
				if _, e := Parse(b, w.src, w.dst); e == nil {
					t.Fatalf("P10.1: Parse of %v, %v has no error", b, w)
				}
				checkParse(t, b, w)
				b[7] ^= 1
				checkError(t, b, w, api.ErrSum, 2)
				for size := range 8 {
					checkError(t, b[:size], w, api.ErrShort, 0)
				}
			}
		}
	}
}

// random: bytes that look like no row.
func random(seed *uint32, b []byte) {
	for i := range b {
		*seed = *seed*1_664_525 + 1_013_904_223
		b[i] = byte(*seed >> 24)
	}
}

// randomWay: of 32 such bytes, of either version.
func randomWay(b []byte, long bool) way {
	if long {
		return way{v6(b[:16]...), v6(b[16:32]...)}
	}
	return way{v4(b...), v4(b[16:]...)}
}

func TestParseOfAnything(t *testing.T) {
	seed := uint32(10)
	for i := range 15_000 {
		m := make([]byte, 200)
		random(&seed, m)
		w := randomWay(m[120:], i%2 == 0)
		v6 := w.src.V6
		b := m[:int(m[199])%120]
		checkParse(t, b, w)
		checkInner(t, b, v6)
		if len(b) < 8 {
			continue
		}
		checkParse(t, summed(b, w), w)
		checkParse(t, summed(turned(b, 0, request(v6)), w), w)
		b = turned(b, 0, wrongs(v6)[i%3], 1, i%5)
		checkParse(t, summed(b, w), w)
		for _, proto := range []int{1, 6, 17, 58} {
			inner := packet(v6, proto, m[:int(m[198])%12]...)
			if !v6 {
				inner = lengthened(inner, int(m[197])%11)
			}
			checkInner(t, inner, v6)
			inner[int(m[196])%len(inner)] = m[195]
			checkInner(t, inner, v6)
		}
	}
}

func TestInnerRight(t *testing.T) {
	for _, v6 := range versions() {
		for _, proto := range []int{api.Tcp, api.Udp} {
			checkInnerRight(t, ported(v6, proto), v6, tuple(v6, proto, 0x1234, 0x5678))
			for v := range 1 << 16 {
				high, low := byte(v/256), byte(v%256)
				checkPorts(t, packet(v6, proto, high, low, 7, 9, 1, 2, 3, 4), v6, tuple(v6, proto, v, 0x709))
				checkPorts(t, packet(v6, proto, 7, 9, high, low, 1, 2, 3, 4), v6, tuple(v6, proto, 0x709, v))
			}
		}
		checkInnerRight(t, pinged(v6), v6, tuple(v6, own(v6), 0x9abc, 0x9abc))
		for v := range 1 << 16 {
			b := packet(v6, own(v6), byte(request(v6)), 0, 1, 2, byte(v/256), byte(v%256), 3, 4)
			checkPorts(t, b, v6, tuple(v6, own(v6), v, v))
		}
	}
}

// checkPorts: as checkInnerRight, but of Inner alone, where there are many.
func checkPorts(t *testing.T, b []byte, v6 bool, want api.Tuple) {
	t.Helper()
	if w, e := Inner(b, v6); w != want || e != nil {
		t.Fatalf("P10.2: Inner of %v, %v: %+v, %v; want %+v", b, v6, w, e, want)
	}
}

// fewest: bytes of what an error of that version is about.
func fewest(v6 bool) int {
	if v6 {
		return 48
	}
	return 28
}

// Too few bytes are the first thing that is wrong, whatever is in them.
func TestInnerShort(t *testing.T) {
	for _, v6 := range versions() {
		for size := range fewest(v6) {
			for _, proto := range []int{api.Icmp, api.Tcp, api.Udp, api.Icmp6, 50} {
				for _, whole := range [][]byte{ported(v6, proto), append(pinged(v6), 1, 2), turned(ported(v6, proto), 6, 0x1f, 7, 255)} {
					checkInnerError(t, whole[:size], v6, api.ErrShort, 0)
					checkInnerError(t, bytes.Clone(whole[:size]), v6, api.ErrShort, 0)
				}
			}
			for first := range 256 {
				b := append([]byte{byte(first)}, ported(v6, api.Tcp)[1:]...)
				checkInnerError(t, b[:size], v6, api.ErrShort, 0)
			}
		}
		for _, b := range [][]byte{nil, {}, make([]byte, 0, 90)} {
			checkInnerError(t, b, v6, api.ErrShort, 0)
		}
		checkInnerRight(t, ported(v6, api.Tcp)[:fewest(v6)], v6, tuple(v6, api.Tcp, 0x1234, 0x5678))
	}
}

// Each first byte: of version 6 its last four bits play no part, of version 4 they are the head's length.
func TestInnerVersion(t *testing.T) {
	for _, v6 := range versions() {
		number := 4
		if v6 {
			number = 6
		}
		for first := range 256 {
			for _, b := range [][]byte{ported(v6, api.Tcp), pinged(v6), append(ported(v6, 50), make([]byte, 60)...)} {
				b[0] = byte(first)
				if first/16 != number {
					checkInnerError(t, b, v6, api.ErrVersion, 0)
				}
				checkInner(t, b, v6)
			}
			if v6 && first/16 == 6 {
				checkInnerRight(t, turned(ported(v6, api.Tcp), 0, first), v6, tuple(v6, api.Tcp, 0x1234, 0x5678))
			}
		}
	}
	checkInnerError(t, ported(true, api.Tcp), false, api.ErrVersion, 0)
	checkInnerError(t, append(ported(false, api.Tcp), make([]byte, 20)...), true, api.ErrVersion, 0)
	checkInnerError(t, ported(false, api.Tcp), true, api.ErrShort, 0)
}

// Each length of a head of version 4, with eight bytes behind it, with more, and with fewer.
func TestInnerLength(t *testing.T) {
	for words := range 5 {
		for more := range 40 {
			b := append(turned(ported(false, api.Tcp), 0, 0x40+words), make([]byte, more)...)
			checkInnerError(t, b, false, api.ErrLength, 0)
		}
	}
	for words := range 11 {
		whole := lengthened(ported(false, api.Udp), words)
		want := tuple(false, api.Udp, 0x1234, 0x5678)
		checkInnerRight(t, whole, false, want)
		checkInnerRight(t, append(bytes.Clone(whole), 1, 2, 3), false, want)
		ping := lengthened(pinged(false), words)
		checkInnerRight(t, ping, false, tuple(false, api.Icmp, 0x9abc, 0x9abc))
		checkInnerError(t, turned(ping, 20+4*words, 0), false, api.ErrKind, 20+4*words)
		for size := range whole {
			if size < 28 {
				checkInnerError(t, whole[:size], false, api.ErrShort, 0)
			} else {
				checkInnerError(t, whole[:size], false, api.ErrLength, 0)
				checkInnerError(t, ping[:size], false, api.ErrLength, 0)
			}
		}
	}
}

// Each of the lowest 13 bits of a part's number is one too many; the highest three play no part.
func TestInnerFragment(t *testing.T) {
	for v := range 1 << 16 {
		b := turned(ported(false, api.Udp), 6, v/256, 7, v%256)
		w, e := Inner(b, false)
		if v%8_192 == 0 {
			checkInnerRight(t, b, false, tuple(false, api.Udp, 0x1234, 0x5678))
		} else if w != (api.Tuple{}) || !is(e, api.ErrFragment, 6) {
			t.Fatalf("P10.2: Inner of a part %d: %+v, %v; want %d at 6", v, w, e, api.ErrFragment)
		}
	}
	for bit := range 13 {
		for words := range 11 {
			for _, proto := range []int{api.Tcp, api.Icmp, 50} {
				b := lengthened(ported(false, proto), words)
				checkInnerError(t, turned(b, 6, 1<<bit/256, 7, 1<<bit%256), false, api.ErrFragment, 6)
			}
		}
	}
	// Of version 6 there stand the kind, and the number of hops.
	for v := range 256 {
		checkInnerRight(t, turned(ported(true, api.Udp), 7, v), true, tuple(true, api.Udp, 0x1234, 0x5678))
	}
}

// Each kind, with what is an echo that was asked for, in either version, behind it, and with ports.
func TestInnerKinds(t *testing.T) {
	for _, v6 := range versions() {
		at := fewest(v6) - 8
		for proto := range 256 {
			for _, behind := range [][]byte{{8, 0, 1, 2, 3, 4, 5, 6}, {128, 0, 1, 2, 3, 4, 5, 6}, {0, 0, 0, 0, 0, 0, 0, 0}, {129, 0, 3, 4, 5, 6, 7, 8}} {
				b := packet(v6, proto, behind...)
				switch {
				case proto == api.Tcp || proto == api.Udp:
					checkInnerRight(t, b, v6, tuple(v6, proto, two(behind, 0), two(behind, 2)))
				case proto == own(v6) && int(behind[0]) == request(v6):
					checkInnerRight(t, b, v6, tuple(v6, proto, 0x304, 0x304))
				default:
					checkInnerError(t, b, v6, api.ErrKind, at)
				}
				if v6 {
					continue
				}
				for words := range 11 {
					long := lengthened(b, words)
					checkInner(t, long, v6)
					if proto == 50 || proto == 0 || proto == 255 || proto == api.Icmp6 {
						checkInnerError(t, long, v6, api.ErrKind, 20+4*words)
					}
				}
			}
		}
	}
}

// Each type and each code of an echo that an error is about.
func TestInnerEchoes(t *testing.T) {
	for _, v6 := range versions() {
		at := fewest(v6) - 8
		for of := range 256 {
			for code := range 256 {
				b := packet(v6, own(v6), byte(of), byte(code), 1, 2, 3, 4, 5, 6)
				w, e := Inner(b, v6)
				if of == request(v6) && code == 0 {
					checkInnerRight(t, b, v6, tuple(v6, own(v6), 0x304, 0x304))
				} else if w != (api.Tuple{}) || !is(e, api.ErrKind, at) {
					t.Fatalf("P10.2: Inner of type %d, code %d: %+v, %v; want %d at %d", of, code, w, e, api.ErrKind, at)
				}
			}
			checkInnerError(t, packet(v6, other(v6), byte(of), 0, 1, 2, 3, 4, 5, 6), v6, api.ErrKind, at)
		}
	}
}

// What the promise doesn't name plays no part: each byte that is none of these may have any number.
func TestInnerOfNoMatter(t *testing.T) {
	for _, v6 := range versions() {
		free := []int{1, 2, 3, 4, 5, 8, 10, 11, 24, 25, 26, 27}
		if v6 {
			free = []int{1, 2, 3, 4, 5, 7, 44, 45, 46, 47}
		}
		for _, proto := range []int{api.Tcp, api.Udp} {
			for v := range 256 {
				for _, at := range free {
					checkInnerRight(t, turned(ported(v6, proto), at, v), v6, tuple(v6, proto, 0x1234, 0x5678))
				}
			}
		}
		at := fewest(v6) - 8
		for v := range 256 {
			for _, at := range []int{at + 2, at + 3, at + 6, at + 7} {
				checkInnerRight(t, turned(pinged(v6), at, v), v6, tuple(v6, own(v6), 0x9abc, 0x9abc))
			}
		}
		for more := range 300 {
			behind := bytes.Repeat([]byte{byte(more)}, more)
			checkInnerRight(t, append(ported(v6, api.Tcp), behind...), v6, tuple(v6, api.Tcp, 0x1234, 0x5678))
			checkInnerRight(t, append(pinged(v6), behind...), v6, tuple(v6, own(v6), 0x9abc, 0x9abc))
		}
	}
}

// Each byte of each address, and no other one.
func TestInnerAddresses(t *testing.T) {
	for _, v6 := range versions() {
		from, width := 12, 4
		if v6 {
			from, width = 8, 16
		}
		for v := range 256 {
			for i := range width {
				want := tuple(v6, api.Tcp, 0x1234, 0x5678)
				want.Src.B[i] = byte(v)
				checkInnerRight(t, turned(ported(v6, api.Tcp), from+i, v), v6, want)
				want = tuple(v6, own(v6), 0x9abc, 0x9abc)
				want.Dst.B[i] = byte(v)
				checkInnerRight(t, turned(pinged(v6), from+width+i, v), v6, want)
			}
		}
	}
}

// Of more than one thing that is wrong the one that is named first is told.
func TestInnerOrder(t *testing.T) {
	// All of it is wrong; then, one by one, the first thing no more.
	b := turned(ported(false, 50), 0, 0x54, 7, 1)
	for size := range 28 {
		checkInnerError(t, b[:size], false, api.ErrShort, 0)
	}
	checkInnerError(t, b, false, api.ErrVersion, 0)
	for _, length := range []int{0, 4, 6, 15} {
		checkInnerError(t, turned(b, 0, 0x40+length), false, api.ErrLength, 0)
		checkInnerError(t, turned(b, 0, 0x60+length), false, api.ErrVersion, 0)
	}
	checkInnerError(t, turned(b, 0, 0x45), false, api.ErrFragment, 6)
	checkInnerError(t, turned(b, 0, 0x45, 7, 0), false, api.ErrKind, 20)
	b = turned(ported(true, 50), 0, 0x45)
	for size := range 48 {
		checkInnerError(t, b[:size], true, api.ErrShort, 0)
	}
	checkInnerError(t, b, true, api.ErrVersion, 0)
	checkInnerError(t, turned(b, 0, 0x60), true, api.ErrKind, 40)
}

// Each error, of Inner at its place, and of Parse eight further.
func TestParseDeeper(t *testing.T) {
	for _, w := range ways() {
		v6 := w.src.V6
		kindAt := fewest(v6) - 8
		rows := []struct {
			b     []byte
			code  api.Errno
			place int
		}{
			{nil, api.ErrShort, 0}, {ported(v6, api.Tcp)[:fewest(v6)-1], api.ErrShort, 0},
			{turned(ported(v6, api.Tcp), 0, 0x15), api.ErrVersion, 0},
			{ported(v6, 50), api.ErrKind, kindAt}, {turned(pinged(v6), kindAt+1, 1), api.ErrKind, kindAt},
		}
		if !v6 {
			for _, first := range []int{0x44, 0x46} {
				b := turned(ported(v6, api.Tcp), 0, first)
				checkInnerError(t, b, v6, api.ErrLength, 0)
				checkError(t, about(b, 3, 1, w), w, api.ErrLength, 8)
			}
			b := turned(ported(v6, api.Tcp), 7, 1)
			checkInnerError(t, b, v6, api.ErrFragment, 6)
			checkError(t, about(b, 11, 0, w), w, api.ErrFragment, 14)
			checkError(t, about(lengthened(ported(v6, 50), 10), 12, 0, w), w, api.ErrKind, 68)
		}
		for _, r := range rows {
			checkInnerError(t, r.b, v6, r.code, r.place)
			for _, of := range wrongs(v6) {
				checkError(t, about(r.b, of, 0, w), w, r.code, r.place+8)
			}
		}
	}
}

// Of an error it is of no matter between which addresses it goes, but for their version.
func TestParseErrorsBetweenOthers(t *testing.T) {
	for _, w := range slices.Concat(ways(), ends(), oddWays()) {
		v6 := w.src.V6
		for _, of := range wrongs(v6) {
			checkRight(t, about(ported(v6, api.Tcp), of, 0, w), w, api.Control{Kind: api.Error, Inner: tuple(v6, api.Tcp, 0x1234, 0x5678)})
			checkRight(t, about(pinged(v6), of, 0, w), w, api.Control{Kind: api.Error, Inner: tuple(v6, own(v6), 0x9abc, 0x9abc)})
			long := append(ported(!v6, api.Tcp), make([]byte, 30)...)
			checkError(t, about(long, of, 0, w), w, api.ErrVersion, 8)
		}
	}
}

// rightAddr: is all behind the bytes of its version 0?
func rightAddr(a api.Addr) bool {
	for i, v := range a.B {
		if !a.V6 && i >= 4 && v != 0 {
			return false
		}
	}
	return true
}

// range16: may it be a number of two bytes?
func range16(v int) bool {
	return 0 <= v && v <= 65_535
}

// built: what the promise says of Build, byte by byte; nil, if an argument may not be.
func built(c api.Control, w way) []byte {
	v6 := w.src.V6
	if !rightAddr(w.src) || !rightAddr(w.dst) || w.dst.V6 != v6 || !range16(c.Id) {
		return nil
	}
	high, low := byte(c.Id>>8), byte(c.Id&255)
	switch c.Kind {
	case api.Request:
		return summed([]byte{byte(request(v6)), 0, 0, 0, high, low, 0, 0}, w)
	case api.Reply:
		return summed([]byte{byte(reply(v6)), 0, 0, 0, high, low, 0, 0}, w)
	case api.Error:
		inner := builtInner(c.Inner, v6)
		if inner == nil {
			return nil
		}
		return about(inner, wrongs(v6)[0], 0, w)
	}
	return nil
}

// builtInner: of what an error is about.
func builtInner(w api.Tuple, v6 bool) []byte {
	if !rightAddr(w.Src) || !rightAddr(w.Dst) || w.Src.V6 != v6 || w.Dst.V6 != v6 || !range16(w.SrcPort) || !range16(w.DstPort) {
		return nil
	}
	from, to := []byte{byte(w.SrcPort / 256), byte(w.SrcPort % 256)}, []byte{byte(w.DstPort / 256), byte(w.DstPort % 256)}
	var behind []byte
	switch {
	case w.Proto == 6 || w.Proto == 17:
		behind = slices.Concat(from, to, []byte{0, 0, 0, 0})
	case w.Proto == own(v6) && w.SrcPort == w.DstPort:
		behind = slices.Concat([]byte{byte(request(v6)), 0, 0, 0}, from, []byte{0, 0})
	default:
		return nil
	}
	if v6 {
		return slices.Concat([]byte{96, 0, 0, 0, 0, 8, byte(w.Proto), 64}, w.Src.B[:], w.Dst.B[:], behind)
	}
	return slices.Concat([]byte{69, 0, 0, 28, 0, 0, 0, 0, 64, byte(w.Proto), 0, 0}, w.Src.B[:4], w.Dst.B[:4], behind)
}

// parsedAs: what is parsed of what was built of c: what plays no part in it is 0.
func parsedAs(c api.Control) api.Control {
	if c.Kind == api.Error {
		return api.Control{Kind: c.Kind, Inner: c.Inner}
	}
	return api.Control{Kind: c.Kind, Id: c.Id}
}

// checkBuild: Build answers what the promise says, and what it built is parsed.
func checkBuild(t *testing.T, c api.Control, w way) {
	t.Helper()
	want := built(c, w)
	b, e := Build(c, w.src, w.dst)
	if want == nil && (!is(e, api.ErrArg, noPlace) || len(b) != 0) || want != nil && e != nil || !bytes.Equal(b, want) {
		t.Fatalf("P10.3: Build of %+v, %v: %v, %v; want %v", c, w, b, e, want)
	}
	if want == nil {
		return
	}
	if again, e := Parse(b, w.src, w.dst); e != nil || again != parsedAs(c) {
		t.Fatalf("P10.3: what was built of %+v, %v is parsed as %+v, %v", c, w, again, e)
	}
	if c.Kind != api.Error {
		return
	}
	if inner, e := Inner(b[8:], w.src.V6); e != nil || inner != c.Inner {
		t.Fatalf("P10.3: what was built of %+v, %v is about %+v, %v", c, w, inner, e)
	}
}

// checkBuilt: Build answers these bytes, with a right sum.
func checkBuilt(t *testing.T, c api.Control, w way, want ...byte) {
	t.Helper()
	want = summed(want, w)
	if b, e := Build(c, w.src, w.dst); e != nil || !bytes.Equal(b, want) {
		t.Fatalf("P10.3: Build of %+v, %v: %v, %v; want %v", c, w, b, e, want)
	}
	checkBuild(t, c, w)
}

// checkArg: Build answers just that an argument may not be.
func checkArg(t *testing.T, c api.Control, w way) {
	t.Helper()
	if b, e := Build(c, w.src, w.dst); len(b) != 0 || !is(e, api.ErrArg, noPlace) {
		t.Fatalf("P10.3: Build of %+v, %v: %v, %v; want %d", c, w, b, e, api.ErrArg)
	}
	checkBuild(t, c, w)
}

// beyond: numbers of no two bytes, some of them one by their lowest bytes.
func beyond() []int {
	return []int{-1, -2, -255, -256, -65_535, -65_536, 65_536, 65_537, 1 << 24, 1 << 32, 1<<32 + 5, math.MinInt32, math.MaxInt32, math.MaxUint32, math.MinInt, math.MinInt + 5, math.MaxInt, math.MaxInt - 5}
}

// wrongAddrs: none of which is right and of that version.
func wrongAddrs(v6 bool) []api.Addr {
	l := []api.Addr{ways()[1].src, {V6: true}}
	if v6 {
		l = []api.Addr{ways()[0].src, {}}
	}
	for i := 4; i < 16; i++ {
		a := ways()[0].src
		a.B[i] = 1
		l = append(l, a)
	}
	return l
}

func TestBuildEchoes(t *testing.T) {
	for _, w := range slices.Concat(ways(), ends()) {
		v6 := w.src.V6
		for id := range 1 << 16 {
			if id%257 > 1 && w != ways()[0] && w != ways()[1] {
				continue
			}
			checkBuilt(t, api.Control{Kind: api.Request, Id: id}, w, byte(request(v6)), 0, 0, 0, byte(id/256), byte(id%256), 0, 0)
			checkBuilt(t, api.Control{Kind: api.Reply, Id: id}, w, byte(reply(v6)), 0, 0, 0, byte(id/256), byte(id%256), 0, 0)
		}
	}
}

// An id that is none may not be, of no kind, though an error has none.
func TestBuildIds(t *testing.T) {
	for _, w := range ways() {
		for _, kind := range []int{api.Request, api.Reply, api.Error} {
			c := api.Control{Kind: kind, Inner: tuple(w.src.V6, api.Tcp, 1, 2)}
			for _, id := range []int{0, 1, 255, 256, 65_534, 65_535} {
				c.Id = id
				if b, e := Build(c, w.src, w.dst); e != nil || kind == api.Error && two(b, 4) != 0 || kind != api.Error && two(b, 4) != id {
					t.Errorf("P10.3: Build of %+v: %v, %v", c, b, e)
				}
				checkBuild(t, c, w)
			}
			for _, id := range beyond() {
				c.Id = id
				checkArg(t, c, w)
			}
		}
	}
}

func TestBuildKinds(t *testing.T) {
	for _, w := range ways() {
		for kind := -300; kind < 600; kind++ {
			c := api.Control{Kind: kind, Id: 7, Inner: tuple(w.src.V6, api.Udp, 1, 2)}
			if kind < 1 || kind > 3 {
				checkArg(t, c, w)
			}
			checkBuild(t, c, w)
		}
		for _, kind := range slices.Concat(beyond(), []int{1<<32 + 1, 1<<32 + 3, 1<<16 + 1, 1<<8 + 2}) {
			checkArg(t, api.Control{Kind: kind, Inner: tuple(w.src.V6, api.Udp, 1, 2)}, w)
		}
	}
}

// What an echo has in Inner plays no part.
func TestBuildEchoesOfAnyInner(t *testing.T) {
	for _, w := range ways() {
		for _, kind := range []int{api.Request, api.Reply} {
			for _, inner := range []api.Tuple{{}, tuple(!w.src.V6, 6, 1, 2), tuple(w.src.V6, 50, -1, 65_536), {Src: wrongAddrs(false)[5], Dst: wrongAddrs(true)[3], Proto: -1}} {
				c := api.Control{Kind: kind, Id: 9, Inner: inner}
				if b, e := Build(c, w.src, w.dst); e != nil || len(b) != 8 {
					t.Errorf("P10.3: Build of %+v: %v, %v", c, b, e)
				}
				checkBuild(t, c, w)
			}
		}
	}
}

func TestBuildErrors(t *testing.T) {
	for _, w := range slices.Concat(ways(), ends()) {
		v6 := w.src.V6
		head, of := []byte{69, 0, 0, 28, 0, 0, 0, 0, 64, 0, 0, 0, 9, 8, 7, 6, 10, 1, 2, 3}, byte(3)
		at := 9
		if v6 {
			r := ways()[1]
			head, of, at = slices.Concat([]byte{96, 0, 0, 0, 0, 8, 0, 64}, r.dst.B[:], r.src.B[:]), 1, 6
		}
		for _, proto := range []int{api.Tcp, api.Udp} {
			head[at] = byte(proto)
			for _, from := range []int{0, 1, 255, 256, 0x1234, 65_534, 65_535} {
				for _, to := range []int{0, 1, 255, 256, 0x5678, 65_534, 65_535} {
					behind := []byte{byte(from / 256), byte(from % 256), byte(to / 256), byte(to % 256), 0, 0, 0, 0}
					checkBuilt(t, api.Control{Kind: api.Error, Inner: tuple(v6, proto, from, to)}, w, slices.Concat([]byte{of, 0, 0, 0, 0, 0, 0, 0}, head, behind)...)
				}
			}
		}
		head[at] = byte(own(v6))
		for _, id := range []int{0, 1, 255, 256, 0x1234, 65_534, 65_535} {
			behind := []byte{byte(request(v6)), 0, 0, 0, byte(id / 256), byte(id % 256), 0, 0}
			checkBuilt(t, api.Control{Kind: api.Error, Inner: tuple(v6, own(v6), id, id)}, w, slices.Concat([]byte{of, 0, 0, 0, 0, 0, 0, 0}, head, behind)...)
		}
	}
}

func TestBuildPorts(t *testing.T) {
	for _, w := range ways() {
		v6 := w.src.V6
		for _, proto := range []int{api.Tcp, api.Udp, own(v6)} {
			for v := 0; v < 65_536; v += 5 {
				checkBuild(t, api.Control{Kind: api.Error, Inner: tuple(v6, proto, v, 3)}, w)
				checkBuild(t, api.Control{Kind: api.Error, Inner: tuple(v6, proto, 3, v)}, w)
				checkBuild(t, api.Control{Kind: api.Error, Inner: tuple(v6, proto, v, v)}, w)
			}
			for _, v := range beyond() {
				checkArg(t, api.Control{Kind: api.Error, Inner: tuple(v6, proto, v, 3)}, w)
				checkArg(t, api.Control{Kind: api.Error, Inner: tuple(v6, proto, 3, v)}, w)
				checkArg(t, api.Control{Kind: api.Error, Inner: tuple(v6, proto, v, v)}, w)
			}
		}
		for v := range 65_535 {
			if _, e := Build(api.Control{Kind: api.Error, Inner: tuple(v6, own(v6), v, v+1)}, w.src, w.dst); !is(e, api.ErrArg, noPlace) {
				t.Fatalf("P10.3: Build of an echo with the ports %d and one more: %v; want %d", v, e, api.ErrArg)
			}
		}
	}
}

func TestBuildProtocols(t *testing.T) {
	for _, w := range ways() {
		v6 := w.src.V6
		for proto := -300; proto < 600; proto++ {
			c := api.Control{Kind: api.Error, Inner: tuple(v6, proto, 7, 7)}
			if proto != api.Tcp && proto != api.Udp && proto != own(v6) {
				checkArg(t, c, w)
			}
			checkBuild(t, c, w)
		}
		checkArg(t, api.Control{Kind: api.Error, Inner: tuple(v6, other(v6), 7, 7)}, w)
		for _, proto := range slices.Concat(beyond(), []int{1<<32 + 6, 1<<16 + 17, 1<<8 + 1}) {
			checkArg(t, api.Control{Kind: api.Error, Inner: tuple(v6, proto, 7, 7)}, w)
		}
	}
}

// Addresses that are not right, or of the other version: of the message, and of what it is about.
func TestBuildAddresses(t *testing.T) {
	for _, w := range ways() {
		v6 := w.src.V6
		for _, kind := range []int{api.Request, api.Reply, api.Error} {
			c := api.Control{Kind: kind, Inner: tuple(v6, own(v6), 7, 7)}
			checkBuild(t, c, w)
			for _, a := range wrongAddrs(v6) {
				checkArg(t, c, way{w.src, a})
				checkArg(t, c, way{a, w.dst})
				if kind != api.Error {
					continue
				}
				for _, proto := range []int{api.Tcp, api.Udp, own(v6)} {
					for end := range 3 {
						c := api.Control{Kind: kind, Inner: tuple(v6, proto, 7, 7)}
						if end != 1 {
							c.Inner.Src = a
						}
						if end != 0 {
							c.Inner.Dst = a
						}
						checkArg(t, c, w)
					}
				}
			}
			for _, a := range wrongAddrs(true)[2:] {
				checkArg(t, c, way{a, a})
			}
		}
	}
	// An error about what went in the other version.
	for _, w := range ways() {
		checkArg(t, api.Control{Kind: api.Error, Inner: tuple(!w.src.V6, api.Tcp, 1, 2)}, w)
		checkArg(t, api.Control{Kind: api.Error, Inner: tuple(!w.src.V6, own(!w.src.V6), 1, 1)}, w)
		checkArg(t, api.Control{Kind: api.Error}, w)
	}
}

// Each byte of each address, of the message, and of what it is about.
func TestBuildEveryByteOfAddresses(t *testing.T) {
	for _, w := range ways() {
		v6 := w.src.V6
		width := 4
		if v6 {
			width = 16
		}
		for v := range 256 {
			for i := range width {
				to := w
				to.src.B[i], to.dst.B[width-1-i] = byte(v), byte(v+1)
				c := api.Control{Kind: api.Error, Inner: tuple(v6, api.Udp, 5, 6)}
				checkBuild(t, c, to)
				checkBuild(t, api.Control{Kind: api.Request, Id: v}, to)
				c.Inner.Src, c.Inner.Dst = to.dst, to.src
				checkBuild(t, c, w)
			}
		}
	}
}

func TestBuildOfAnything(t *testing.T) {
	seed := uint32(99)
	for i := range 50_000 {
		m := make([]byte, 120)
		random(&seed, m)
		w := randomWay(m, i%2 == 0)
		inner := randomWay(m[40:], m[80]%8 == 0 != w.src.V6)
		proto := []int{6, 17, 1, 58, int(m[81])}[int(m[82])%5]
		c := api.Control{Kind: int(m[83])%5 + int(m[84])/255, Id: two(m, 85), Inner: api.Tuple{Src: inner.src, Dst: inner.dst, Proto: proto, SrcPort: two(m, 87), DstPort: two(m, 89)}}
		checkBuild(t, c, w)
		c.Inner.DstPort = c.Inner.SrcPort
		checkBuild(t, c, w)
	}
}

// fill writes v into all of b, and into the room behind its end.
func fill(b []byte, v byte) {
	b = b[:cap(b)]
	for i := range b {
		b[i] = v
	}
}

// Neither the bytes nor the room behind their end are written; what is answered is no part of them.
func TestNothingIsWritten(t *testing.T) {
	for _, w := range ways() {
		for _, b := range samples(w) {
			for size := range len(b) + 1 {
				room := append(bytes.Clone(b), bytes.Repeat([]byte{7}, 50)...)
				before := bytes.Clone(room)
				c, e := Parse(room[:size], w.src, w.dst)
				want, code, place := expected(b[:size], w)
				if !bytes.Equal(room, before) {
					t.Errorf("R3: Parse wrote into what it was given: %v; want %v", room, before)
				}
				if fill(room, 55); c != want || !is(e, code, place) {
					t.Errorf("R3: Parse kept what it was given: %+v, %v; want %+v", c, e, want)
				}
				room = bytes.Clone(before)
				from := min(size, 8)
				inner, e := Inner(room[from:size], w.src.V6)
				wantInner, code, place := expectedInner(b[from:size], w.src.V6)
				if !bytes.Equal(room, before) {
					t.Errorf("R3: Inner wrote into what it was given: %v; want %v", room, before)
				}
				if fill(room, 55); inner != wantInner || !is(e, code, place) {
					t.Errorf("R3: Inner kept what it was given: %+v, %v; want %+v", inner, e, wantInner)
				}
			}
		}
	}
}

func TestBuildIsNew(t *testing.T) {
	for _, w := range ways() {
		for _, c := range []api.Control{{Kind: api.Request, Id: 7}, {Kind: api.Reply, Id: 9}, {Kind: api.Error, Inner: tuple(w.src.V6, api.Tcp, 1, 2)}, {Kind: api.Error, Inner: tuple(w.src.V6, own(w.src.V6), 3, 3)}} {
			one, _ := Build(c, w.src, w.dst)
			other, _ := Build(c, w.src, w.dst)
			fill(one, 99)
			if !bytes.Equal(other, built(c, w)) {
				t.Errorf("R3: who writes into what Build answered changes others: %v", other)
			}
			checkBuild(t, c, w)
		}
	}
}

// Who writes into an error changes no other one.
func TestErrorsAreNew(t *testing.T) {
	w := ways()[0]
	wrong := turned(message(8, 0, w), 7, 1)
	for _, b := range [][]byte{nil, wrong, about(nil, 3, 0, w), about(turned(ported(false, 6), 0, 0), 3, 0, w), about(turned(ported(false, 6), 0, 0x44), 3, 0, w), about(turned(ported(false, 6), 7, 1), 3, 0, w), about(ported(false, 50), 3, 0, w)} {
		_, code, place := expected(b, w)
		_, held := Parse(b, w.src, w.dst)
		_, next := Parse(b, w.src, w.dst)
		var f *api.Fault
		if !errors.As(next, &f) {
			t.Fatalf("R4: %v: no place in it", next)
		}
		f.At, f.Err = 77, api.ErrBig
		if !is(held, code, place) {
			t.Errorf("R3: who writes into one error changes another: %v", held)
		}
		checkError(t, b, w, code, place)
	}
}

// Whatever was asked ahead, the same answer comes.
func TestAnswersHangOnArgumentsAlone(t *testing.T) {
	for range 3 {
		for _, w := range ways() {
			v6 := w.src.V6
			checkRight(t, message(request(v6), 0, w), w, api.Control{Kind: api.Request, Id: 0x1234})
			checkBuild(t, api.Control{Kind: api.Error, Inner: tuple(v6, api.Tcp, 1, 2)}, w)
			checkError(t, about(ported(v6, 50), wrongs(v6)[1], 0, w), w, api.ErrKind, fewest(v6))
			checkArg(t, api.Control{Kind: api.Else}, w)
			checkInnerRight(t, pinged(v6), v6, tuple(v6, own(v6), 0x9abc, 0x9abc))
			checkRight(t, message(77, 0, w), w, api.Control{Kind: api.Else})
			checkError(t, nil, w, api.ErrShort, 0)
			checkBuild(t, api.Control{Kind: api.Reply}, w)
			checkInnerError(t, nil, v6, api.ErrShort, 0)
		}
	}
}
