package tcp

import (
	"bytes"
	"errors"
	"fmt"
	"math"
	"slices"
	"testing"

	"stockade/api"
	"stockade/fault"
)

// noPlace: of an error that says none.
const noPlace = -1

// is tells whether e is an error of that number at that place; of 0 whether there is none.
func is(e error, code api.Errno, at int) bool {
	if code == 0 {
		return e == nil
	}
	place, placed := fault.Place(e)
	if !placed {
		place = noPlace
	}
	return errors.Is(e, code) && fault.Code(e) == code && place == at
}

// same tells whether all fields of a and b are, with nil as nothing.
func same(a, b api.Segment) bool {
	return a.SrcPort == b.SrcPort && a.DstPort == b.DstPort && a.Seq == b.Seq && a.Ack == b.Ack && a.Flags == b.Flags && bytes.Equal(a.Payload, b.Payload)
}

// head: the first bytes of b, which are enough to tell one row from another.
func head(b []byte) []byte {
	return b[:min(len(b), 70)]
}

// shown: s with the first bytes of its payload alone, and how many it has: a message of all of them would be of no use.
func shown(s api.Segment) string {
	n := len(s.Payload)
	s.Payload = head(s.Payload)
	return fmt.Sprintf("%+v (%d bytes)", s, n)
}

// way: from where to where a segment goes.
type way struct{ src, dst api.Addr }

// v4, v6: addresses that begin with these bytes.
func v4(b ...byte) (a api.Addr) {
	copy(a.B[:4], b)
	return a
}

func v6(b ...byte) (a api.Addr) {
	a.V6 = true
	copy(a.B[:], b)
	return a
}

// ways: one of each version; a new list each time.
func ways() []way {
	return []way{
		{v4(10, 1, 2, 3), v4(9, 8, 7, 6)},
		{v6(0xfe, 0x80, 3, 0, 0, 0, 0, 0, 5, 0, 0, 0, 0, 0, 7, 1), v6(0x20, 1, 0xd, 0xb8, 0, 9, 0, 0, 0, 0, 0, 0, 0, 0, 0, 2)},
	}
}

// oddWays: such as no packet has: only src's version says what counts of them.
func oddWays() []way {
	long := api.Addr{B: [16]byte{1, 2, 3, 4, 5, 6, 7, 8, 9}}
	r := ways()
	return []way{
		{r[0].src, r[1].dst}, {r[1].src, r[0].dst}, {long, long}, {long, r[1].src}, {r[1].src, long},
		{v4(), v4()}, {v6(), v6()},
		{v4(255, 255, 255, 255), v4(255, 255, 255, 255)}, {v6(bytes.Repeat([]byte{255}, 16)...), v6(bytes.Repeat([]byte{255}, 16)...)},
	}
}

// total: all numbers of two bytes of what is summed: the addresses, the protocol and the length, and b.
func total(b []byte, w way) int {
	width := 4
	if w.src.V6 {
		width = 16
	}
	p := slices.Concat(w.src.B[:width], w.dst.B[:width])
	n := len(b)
	if w.src.V6 {
		p = append(p, byte(n/16_777_216), byte(n/65_536), byte(n/256), byte(n), 0, 0, 0, 6)
	} else {
		p = append(p, 0, 6, byte(n/256), byte(n))
	}
	all := 0
	for i, v := range append(p, b...) {
		if i%2 == 0 {
			all += 256 * int(v)
		} else {
			all += int(v)
		}
	}
	return all
}

// fourBytes: the number of the four bytes there.
func fourBytes(b []byte, at int) uint32 {
	return 16_777_216*uint32(b[at]) + 65_536*uint32(b[at+1]) + 256*uint32(b[at+2]) + uint32(b[at+3])
}

// expected: what the promise says of Parse(b), sentence by sentence.
// A sum is 0 just where all numbers together are a multiple of 65,535: with the protocol among them they are never 0.
func expected(b []byte, w way) (s api.Segment, code api.Errno, place int) {
	if len(b) < 20 {
		return s, api.ErrShort, 0
	}
	size := 4 * int(b[12]/16)
	if size < 20 || size > len(b) {
		return s, api.ErrLength, 12
	}
	if total(b, w)%65_535 != 0 {
		return s, api.ErrSum, 16
	}
	s.SrcPort, s.DstPort = 256*int(b[0])+int(b[1]), 256*int(b[2])+int(b[3])
	s.Seq, s.Ack = fourBytes(b, 4), fourBytes(b, 8)
	s.Flags = int(b[13] % 64)
	s.Payload = b[size:]
	return s, 0, 0
}

// checkParse holds Parse of b against the promise. As all checks it ends its test with the first fault: of many alike one says enough.
func checkParse(t *testing.T, b []byte, w way) {
	t.Helper()
	before := bytes.Clone(b)
	want, code, place := expected(b, w)
	s, e := Parse(b, w.src, w.dst)
	if !same(s, want) || !is(e, code, place) {
		t.Fatalf("P8.1: Parse of %d bytes (%v ..), %v: %s, %v; want %s, %d at %d", len(b), head(b), w, shown(s), e, shown(want), code, place)
	}
	if !bytes.Equal(b, before) {
		t.Fatalf("R3: Parse changed the %d bytes that were handed in", len(b))
	}
}

// checkError: Parse of b is just that error.
func checkError(t *testing.T, b []byte, w way, code api.Errno, place int) {
	t.Helper()
	if s, e := Parse(b, w.src, w.dst); !same(s, api.Segment{}) || !is(e, code, place) {
		t.Fatalf("P8.1: Parse of %d bytes (%v ..), %v: %s, %v; want %d at %d", len(b), head(b), w, shown(s), e, code, place)
	}
	checkParse(t, b, w)
}

// checkRight: Parse of b is that segment.
func checkRight(t *testing.T, b []byte, w way, want api.Segment) {
	t.Helper()
	if s, e := Parse(b, w.src, w.dst); !same(s, want) || e != nil {
		t.Fatalf("P8.1: Parse of %d bytes (%v ..), %v: %s, %v; want %s", len(b), head(b), w, shown(s), e, shown(want))
	}
	checkParse(t, b, w)
}

// summed: b with its sum put right. (It is 0, not 65,535, where the others together are a multiple of 65,535.)
func summed(b []byte, w way) []byte {
	b = bytes.Clone(b)
	b[16], b[17] = 0, 0
	v := 65_534 - (total(b, w)-1)%65_535
	b[16], b[17] = byte(v/256), byte(v%256)
	return b
}

// turned: b with bytes at places, and its sum put right.
func turned(b []byte, w way, at ...int) []byte {
	b = bytes.Clone(b)
	for i := 0; i < len(at); i += 2 {
		b[at[i]] = byte(at[i+1])
	}
	return summed(b, w)
}

// segment: with a head of so many fours, and so many bytes behind it. What plays no part in it is not 0.
func segment(fours, bears int, w way) []byte {
	b := []byte{0x12, 0x34, 0x56, 0x78, 1, 2, 3, 4, 5, 6, 7, 8, byte(16*fours + 11), 0xc0 + 18, 77, 88, 0, 0, 99, 111}
	for i := range 4*fours - 20 {
		b = append(b, byte(200+i))
	}
	return summed(append(b, counted(bears)...), w)
}

// counted: so many bytes that a segment bears.
func counted(n int) []byte {
	b := make([]byte, n)
	for i := range b {
		b[i] = byte(7*i + 1)
	}
	return b
}

// told: what a segment is parsed as.
func told(bears int) api.Segment {
	return api.Segment{SrcPort: 0x1234, DstPort: 0x5678, Seq: 0x01020304, Ack: 0x05060708, Flags: 18, Payload: counted(bears)}
}

func TestExample(t *testing.T) {
	for _, w := range slices.Concat(ways(), oddWays()) {
		for _, b := range [][]byte{nil, {}, make([]byte, 0, 50), segment(5, 3, w)[:0]} {
			checkError(t, b, w, api.ErrShort, 0)
		}
	}
}

// Segments, and the sum of each, that were worked out by hand, so that the tests' own answers are held against something, too.
func TestByHand(t *testing.T) {
	short, long := way{v4(10, 1, 2, 3), v4(9, 8, 7, 6)}, way{v6(0xfe, 0x80, 0, 0, 0, 0, 0, 0, 0, 0, 0, 0, 0, 0, 0, 1), v6(0, 0, 0, 0, 0, 0, 0, 0, 0, 0, 0, 0, 0, 0, 0, 2)}
	full := api.Segment{SrcPort: 65_535, DstPort: 65_535, Seq: math.MaxUint32, Ack: math.MaxUint32, Flags: 63}
	for _, r := range []struct {
		w way
		s api.Segment
		b []byte
	}{
		// 0a01 + 0203 + 0908 + 0706 + 0006 + 0015, then 1234 + 5678 + 0102 + 0304 + 0506 + 0708 + 5012 + 0400 + 0900: f1ff.
		{short, api.Segment{SrcPort: 0x1234, DstPort: 0x5678, Seq: 0x01020304, Ack: 0x05060708, Flags: 18, Payload: []byte{9}}, []byte{0x12, 0x34, 0x56, 0x78, 1, 2, 3, 4, 5, 6, 7, 8, 80, 18, 4, 0, 0x0e, 0x00, 0, 0, 9}},
		// fe80 + 0001 + 0002 + 0015 + 0006, then the same: 1d470, which is d471.
		{long, api.Segment{SrcPort: 0x1234, DstPort: 0x5678, Seq: 0x01020304, Ack: 0x05060708, Flags: 18, Payload: []byte{9}}, []byte{0x12, 0x34, 0x56, 0x78, 1, 2, 3, 4, 5, 6, 7, 8, 80, 18, 4, 0, 0x2b, 0x8e, 0, 0, 9}},
		// 0006 + 0014 + 5000 + 0400.
		{way{}, api.Segment{}, []byte{0, 0, 0, 0, 0, 0, 0, 0, 0, 0, 0, 0, 80, 0, 4, 0, 0xab, 0xe5, 0, 0}},
		{way{v6(), v6()}, api.Segment{}, []byte{0, 0, 0, 0, 0, 0, 0, 0, 0, 0, 0, 0, 80, 0, 4, 0, 0xab, 0xe5, 0, 0}},
		// Six numbers of ffff, which count as one, and 0006 + 0014 + 503f + 0400: 5459, and that one is no more than 0.
		{way{}, full, []byte{255, 255, 255, 255, 255, 255, 255, 255, 255, 255, 255, 255, 80, 63, 4, 0, 0xab, 0xa6, 0, 0}},
		// 0006 + 0016 + 5000 + 0400 + abe3: that is ffff, and the sum 0.
		{way{}, api.Segment{Payload: []byte{0xab, 0xe3}}, []byte{0, 0, 0, 0, 0, 0, 0, 0, 0, 0, 0, 0, 80, 0, 4, 0, 0, 0, 0, 0, 0xab, 0xe3}},
	} {
		if b, e := Build(r.s, r.w.src, r.w.dst); e != nil || !bytes.Equal(b, r.b) {
			t.Errorf("P8.1: Build of %+v, %v: %v, %v; want %v", r.s, r.w, b, e, r.b)
		}
		checkBuild(t, r.s, r.w)
		checkRight(t, r.b, r.w, r.s)
		r.b[13] ^= 1
		checkError(t, r.b, r.w, api.ErrSum, 16)
	}
	// With options, and a sum that is wrong by its lowest bit.
	b := []byte{0, 80, 0xc0, 0, 0, 0, 0, 1, 0, 0, 0, 2, 0x60, 2, 0xff, 0xff, 0, 0, 0, 0, 2, 4, 5, 0xb4, 1, 2, 3}
	// 0a01 + 0203 + 0908 + 0706 + 0006 + 001b, then 0050 + c000 + 0001 + 0002 + 6002 + ffff + 0204 + 05b4 + 0102 + 0300: 24841, which is 4843.
	b[16], b[17] = 0xb7, 0xbc
	checkRight(t, b, short, api.Segment{SrcPort: 80, DstPort: 49_152, Seq: 1, Ack: 2, Flags: api.Syn, Payload: []byte{1, 2, 3}})
	b[17]--
	checkError(t, b, short, api.ErrSum, 16)
}

func TestParseRight(t *testing.T) {
	for _, w := range slices.Concat(ways(), oddWays()) {
		for fours := 5; fours <= 15; fours++ {
			for bears := range 70 {
				checkRight(t, segment(fours, bears, w), w, told(bears))
			}
			for _, bears := range []int{1_940, 1_941, 4_002, 65_535 - 4*fours - 1, 65_535 - 4*fours} {
				checkRight(t, segment(fours, bears, w), w, told(bears))
			}
		}
	}
}

// The promise names no most of what is parsed: the sum alone says what goes.
func TestParseOfVeryMany(t *testing.T) {
	for _, w := range ways() {
		for _, bears := range []int{65_515, 65_516, 65_517, 65_536, 131_072, 200_001, 3_000_000} {
			b := segment(5, bears, w)
			checkRight(t, b, w, told(bears))
			b[len(b)-1]++
			checkError(t, b, w, api.ErrSum, 16)
		}
	}
}

// Too few bytes are the first thing that is wrong, whatever is in them, and whatever stands behind their end.
func TestParseShort(t *testing.T) {
	for _, w := range ways() {
		for v := range 256 {
			b := turned(segment(5, 9, w), w, 12, v)
			for size := range 20 {
				checkError(t, b[:size], w, api.ErrShort, 0)
				checkError(t, bytes.Clone(b[:size]), w, api.ErrShort, 0)
				checkError(t, bytes.Repeat([]byte{byte(v)}, size), w, api.ErrShort, 0)
			}
		}
		b := segment(5, 0, w)
		checkError(t, b[:19], w, api.ErrShort, 0)
		checkRight(t, b[:20], w, told(0))
		checkRight(t, summed(segment(5, 9, w)[:20], w), w, told(0))
	}
}

// A head of each length, cut at each place: with just the bytes for it, with one too few, and with more.
func TestParseHead(t *testing.T) {
	for _, w := range ways() {
		for fours := range 16 {
			for low := range 16 {
				whole := segment(15, 9, w)
				whole[12] = byte(16*fours + low)
				for size := 20; size <= len(whole); size++ {
					b := summed(whole[:size], w)
					if fours < 5 || 4*fours > size {
						checkError(t, b, w, api.ErrLength, 12)
						continue
					}
					want := told(0)
					want.Payload = b[4*fours:]
					checkRight(t, b, w, want)
				}
			}
		}
	}
}

// What would make up the length may stand behind the end: it is not there.
func TestParseRoomBehindTheEnd(t *testing.T) {
	for _, w := range ways() {
		whole := segment(10, 30, w)
		before := bytes.Clone(whole)
		for size := range len(whole) {
			s, e := Parse(whole[:size], w.src, w.dst)
			if e == nil || !same(s, api.Segment{}) {
				t.Errorf("P8.1: Parse of the first %d bytes: %+v, %v", size, s, e)
			}
			checkParse(t, whole[:size], w)
		}
		checkRight(t, whole, w, told(30))
		if !bytes.Equal(whole, before) {
			t.Errorf("R3: Parse wrote behind the end of what it was given")
		}
		for fours := 6; fours <= 15; fours++ {
			b := segment(fours, 9, w)
			checkError(t, summed(b[:4*fours], w)[:4*fours-1], w, api.ErrLength, 12)
			checkRight(t, summed(b[:4*fours], w), w, told(0))
			checkRight(t, summed(b[:4*fours+1], w), w, told(1))
		}
	}
}

// One bit turned makes the sum wrong, wherever it is: two numbers that differ in one bit are not alike.
func TestParseEveryBitTurned(t *testing.T) {
	for _, w := range ways() {
		for fours := 5; fours <= 15; fours++ {
			for _, bears := range []int{0, 1, 8, 31} {
				whole := segment(fours, bears, w)
				for at := range whole {
					for bit := range 8 {
						b := bytes.Clone(whole)
						b[at] ^= 1 << bit
						if n := 4 * int(b[12]/16); n < 20 || n > len(b) {
							checkError(t, b, w, api.ErrLength, 12)
						} else {
							checkError(t, b, w, api.ErrSum, 16)
						}
					}
				}
				checkError(t, append(bytes.Clone(whole), 0), w, api.ErrSum, 16)
				checkError(t, append(bytes.Clone(whole), 1, 2), w, api.ErrSum, 16)
				if bears > 0 {
					checkError(t, whole[:len(whole)-1], w, api.ErrSum, 16)
				}
			}
		}
	}
}

// Each number as the sum: just one is right; but where all others together have the sum 0, 0 and 65,535 are.
func TestParseEverySum(t *testing.T) {
	for _, w := range ways() {
		plain := segment(7, 3, w)
		even := turned(plain, w, 14, 0, 15, 0)
		even[14], even[15] = even[16], even[17]
		even = summed(even, w)
		if even[16] != 0 || even[17] != 0 {
			t.Fatalf("the tests' own segment has the sum %v; want 0", even[16:18])
		}
		for _, r := range []struct {
			b     []byte
			right []int
		}{{plain, []int{256*int(plain[16]) + int(plain[17])}}, {even, []int{0, 65_535}}} {
			for v := range 1 << 16 {
				b := bytes.Clone(r.b)
				b[16], b[17] = byte(v/256), byte(v%256)
				if slices.Contains(r.right, v) {
					checkRight(t, b, w, told(3))
				} else {
					checkError(t, b, w, api.ErrSum, 16)
				}
			}
		}
	}
}

// The sum is of both addresses, whole, and of src's version; in turn they have the same.
func TestParseAddresses(t *testing.T) {
	for _, w := range ways() {
		b := segment(6, 5, w)
		checkRight(t, b, way{w.dst, w.src}, told(5))
		for at := range 16 {
			for bit := range 8 {
				from, to := w, w
				from.src.B[at] ^= 1 << bit
				to.dst.B[at] ^= 1 << bit
				for _, other := range []way{from, to} {
					if w.src.V6 || at < 4 {
						checkError(t, b, other, api.ErrSum, 16)
					} else {
						checkRight(t, b, other, told(5))
					}
				}
			}
		}
		checkError(t, b, way{w.src, w.src}, api.ErrSum, 16)
		checkError(t, b, way{w.dst, w.dst}, api.ErrSum, 16)
		checkError(t, b, way{}, api.ErrSum, 16)
		other := w
		other.src.V6 = !other.src.V6
		checkParse(t, b, other)
		other = w
		other.dst.V6 = !other.dst.V6
		checkRight(t, b, other, told(5))
	}
	r := ways()
	checkError(t, segment(5, 9, r[0]), r[1], api.ErrSum, 16)
	checkError(t, segment(5, 9, r[1]), r[0], api.ErrSum, 16)
	for _, w := range r {
		for _, odd := range oddWays() {
			checkParse(t, segment(5, 9, w), odd)
			checkParse(t, segment(5, 9, odd), w)
		}
	}
}

// A segment with the sum that another protocol, or no addresses, would make is wrong.
func TestParseSumsWhatIsAhead(t *testing.T) {
	for _, w := range ways() {
		b := segment(5, 9, w)
		right := 256*int(b[16]) + int(b[17])
		for proto := range 256 {
			v := right + 6 - proto
			b[16], b[17] = byte(v/256), byte(v%256)
			if proto == api.Tcp {
				checkRight(t, b, w, told(9))
			} else {
				checkError(t, b, w, api.ErrSum, 16)
			}
		}
	}
}

// Of byte 13 the lowest six bits are told, and of byte 12 the lowest four mean nothing.
func TestParseFlags(t *testing.T) {
	for _, w := range ways() {
		for v := range 256 {
			want := told(4)
			want.Flags = v % 64
			for low := range 16 {
				checkRight(t, turned(segment(6, 4, w), w, 13, v, 12, 96+low), w, want)
			}
		}
		for bit, flag := range []int{api.Fin, api.Syn, api.Rst, api.Psh, api.Ack, api.Urg, 0, 0} {
			s, e := Parse(turned(segment(6, 4, w), w, 13, 1<<bit), w.src, w.dst)
			if s.Flags != flag || e != nil {
				t.Errorf("P8.1: Parse with the bit %d at 13: Flags %d, %v; want %d", bit, s.Flags, e, flag)
			}
		}
	}
}

func TestParsePorts(t *testing.T) {
	for _, w := range ways() {
		for v := range 1 << 16 {
			want := told(4)
			want.SrcPort = v
			checkRight(t, turned(segment(5, 4, w), w, 0, v/256, 1, v%256), w, want)
			want = told(4)
			want.DstPort = v
			checkRight(t, turned(segment(5, 4, w), w, 2, v/256, 3, v%256), w, want)
		}
	}
}

// numbers: of four bytes, at the ends of their range, and with each byte alone.
func numbers() []uint32 {
	return []uint32{0, 1, 127, 128, 255, 256, 65_535, 65_536, 1 << 24, 1<<24 - 1, 1<<31 - 1, 1 << 31, 1<<31 + 1, math.MaxUint32 - 1, math.MaxUint32, 0xff, 0xff00, 0xff0000, 0xff000000, 0x01020304, 0xfedcba98}
}

func TestParseNumbersOfFourBytes(t *testing.T) {
	for _, w := range ways() {
		for _, v := range numbers() {
			for _, u := range numbers() {
				b, want := segment(5, 4, w), told(4)
				want.Seq, want.Ack = v, u
				for i := range 4 {
					b[4+i], b[8+i] = byte(v>>(24-8*i)), byte(u>>(24-8*i))
				}
				checkRight(t, summed(b, w), w, want)
			}
		}
	}
}

// What is not spoken of may be anything: the numbers at 14 and 18, and the options.
func TestParsePassesOver(t *testing.T) {
	for _, w := range ways() {
		for v := range 1 << 16 {
			checkRight(t, turned(segment(7, 4, w), w, 14, v/256, 15, v%256), w, told(4))
			checkRight(t, turned(segment(7, 4, w), w, 18, v/256, 19, v%256), w, told(4))
		}
		for fours := 6; fours <= 15; fours++ {
			for at := 20; at < 4*fours; at++ {
				for v := range 256 {
					checkRight(t, turned(segment(fours, 2, w), w, at, v), w, told(2))
				}
			}
		}
	}
}

// Of more than one thing that is wrong the one that is named first is told.
func TestParseOrder(t *testing.T) {
	for _, w := range ways() {
		b := segment(6, 4, w)
		b[3] ^= 1
		checkError(t, b, w, api.ErrSum, 16)
		for fours := range 16 {
			b[12] = byte(16 * fours)
			if fours < 5 || fours > 7 {
				checkError(t, b, w, api.ErrLength, 12)
			} else {
				checkError(t, b, w, api.ErrSum, 16)
			}
			checkError(t, b[:19], w, api.ErrShort, 0)
			checkError(t, b[:12], w, api.ErrShort, 0)
			checkError(t, b[:13], w, api.ErrShort, 0)
		}
	}
}

// random: bytes that look like no row.
func random(seed *uint32, b []byte) {
	for i := range b {
		*seed = *seed*1_664_525 + 1_013_904_223
		b[i] = byte(*seed >> 24)
	}
}

func TestParseOfAnything(t *testing.T) {
	seed := uint32(8)
	for i := range 100_000 {
		b := make([]byte, 140)
		random(&seed, b)
		w := way{v4(b[100:]...), v4(b[104:]...)}
		if i%2 == 0 {
			w = way{v6(b[100:116]...), v6(b[116:132]...)}
		}
		b = b[:int(b[139])%100]
		checkParse(t, b, w)
		if len(b) < 20 {
			continue
		}
		b = summed(b, w)
		checkParse(t, b, w)
		b[12] = byte(80 + int(b[12])%96)
		checkParse(t, summed(b, w), w)
	}
}

// built: what the promise says of Build, byte by byte; nil, if an argument may not be.
func built(s api.Segment, w way) []byte {
	for _, port := range []int{s.SrcPort, s.DstPort} {
		if port < 0 || port > 65_535 {
			return nil
		}
	}
	if s.Flags < 0 || s.Flags > 63 || len(s.Payload) > 65_515 {
		return nil
	}
	b := []byte{byte(s.SrcPort / 256), byte(s.SrcPort % 256), byte(s.DstPort / 256), byte(s.DstPort % 256)}
	for _, v := range []uint32{s.Seq, s.Ack} {
		b = append(b, byte(v/16_777_216), byte(v/65_536), byte(v/256), byte(v))
	}
	b = append(b, 80, byte(s.Flags), 4, 0, 0, 0, 0, 0)
	return summed(append(b, s.Payload...), w)
}

// checkBuild: Build answers what the promise says, leaves what it is given, and what it built is parsed.
func checkBuild(t *testing.T, s api.Segment, w way) {
	t.Helper()
	before := bytes.Clone(s.Payload)
	want := built(s, w)
	b, e := Build(s, w.src, w.dst)
	if want == nil && (!is(e, api.ErrArg, noPlace) || len(b) != 0) || want != nil && e != nil || !bytes.Equal(b, want) {
		t.Fatalf("P8.1: Build of %s, %v: %d bytes (%v ..), %v; want %d bytes (%v ..)", shown(s), w, len(b), head(b), e, len(want), head(want))
	}
	if !bytes.Equal(s.Payload, before) {
		t.Fatalf("R3: Build changed the %d bytes that were handed in", len(before))
	}
	if want == nil {
		return
	}
	if again, e := Parse(b, w.src, w.dst); e != nil || !same(again, s) {
		t.Fatalf("P8.1: what was built of %s, %v is parsed as %s, %v", shown(s), w, shown(again), e)
	}
	if len(b) != 20+len(s.Payload) || total(b, w)%65_535 != 0 {
		t.Fatalf("P8.1: what was built of %d bytes has %d, and the sum of its numbers %d", len(s.Payload), len(b), total(b, w)%65_535)
	}
}

// checkArg: Build answers just that an argument may not be.
func checkArg(t *testing.T, s api.Segment, w way) {
	t.Helper()
	if b, e := Build(s, w.src, w.dst); len(b) != 0 || !is(e, api.ErrArg, noPlace) {
		t.Fatalf("P8.1: Build of %s, %v: %d bytes, %v; want %d", shown(s), w, len(b), e, api.ErrArg)
	}
	checkBuild(t, s, w)
}

// beyond: numbers that are outside of 0 to most, some of them within it by their lowest bytes.
func beyond(most int) []int {
	return []int{-1, -2, -255, -256, -65_536, most + 1, most + 2, 65_536, 65_537, 1 << 24, 1 << 32, 1<<32 + 5, math.MinInt32, math.MaxInt32, math.MaxUint32, math.MinInt, math.MinInt + 5, math.MaxInt, math.MaxInt - 5}
}

func TestBuildPorts(t *testing.T) {
	for _, w := range ways() {
		for v := range 1 << 16 {
			checkBuild(t, api.Segment{SrcPort: v, DstPort: 3}, w)
			checkBuild(t, api.Segment{SrcPort: 3, DstPort: v}, w)
		}
		for _, v := range []int{0, 1, 255, 256, 65_534, 65_535} {
			if b, e := Build(api.Segment{SrcPort: v, DstPort: 65_535 - v}, w.src, w.dst); len(b) != 20 || e != nil {
				t.Errorf("P8.1: Build of ports %d and %d: %v, %v", v, 65_535-v, b, e)
			}
		}
		for _, v := range beyond(65_535) {
			checkArg(t, api.Segment{SrcPort: v}, w)
			checkArg(t, api.Segment{DstPort: v}, w)
			checkArg(t, api.Segment{SrcPort: v, DstPort: v, Flags: 63, Payload: []byte{1}}, w)
		}
	}
}

func TestBuildFlags(t *testing.T) {
	for _, w := range ways() {
		for v := range 64 {
			if b, e := Build(api.Segment{Flags: v}, w.src, w.dst); e != nil || len(b) != 20 || b[12] != 80 || b[13] != byte(v) {
				t.Errorf("P8.1: Build of Flags %d: %v, %v", v, b, e)
			}
			checkBuild(t, api.Segment{Flags: v, Payload: []byte{1}}, w)
		}
		for v := 64; v < 600; v++ {
			checkArg(t, api.Segment{Flags: v}, w)
			checkArg(t, api.Segment{Flags: -v}, w)
		}
		for _, v := range beyond(63) {
			checkArg(t, api.Segment{Flags: v}, w)
			checkArg(t, api.Segment{Flags: v, Payload: []byte{1, 2, 3}}, w)
		}
	}
}

func TestBuildNumbersOfFourBytes(t *testing.T) {
	for _, w := range ways() {
		for _, v := range numbers() {
			for _, u := range numbers() {
				checkBuild(t, api.Segment{Seq: v, Ack: u}, w)
				checkBuild(t, api.Segment{Seq: v, Ack: u, Flags: 63, SrcPort: 65_535, DstPort: 65_535, Payload: []byte{255}}, w)
			}
		}
	}
}

func TestBuildPayload(t *testing.T) {
	for _, w := range ways() {
		for _, payload := range [][]byte{nil, {}, make([]byte, 0, 9)} {
			checkBuild(t, api.Segment{SrcPort: 1, Payload: payload}, w)
		}
		for size := range 600 {
			checkBuild(t, api.Segment{SrcPort: 1, Payload: counted(size)}, w)
			checkBuild(t, api.Segment{SrcPort: 1, Payload: make([]byte, size)}, w)
		}
		for size := 65_500; size < 65_560; size++ {
			for _, payload := range [][]byte{counted(size), make([]byte, size), bytes.Repeat([]byte{255}, size)} {
				b, e := Build(api.Segment{Payload: payload}, w.src, w.dst)
				if (e == nil) != (size <= 65_515) || e == nil && len(b) != 20+size {
					t.Errorf("P8.1: Build of a payload of %d bytes: %d bytes, %v", size, len(b), e)
				}
				checkBuild(t, api.Segment{Payload: payload}, w)
			}
		}
		for _, size := range []int{65_516, 65_535, 65_536, 65_537, 131_051, 131_072, 3_000_000} {
			checkArg(t, api.Segment{Payload: make([]byte, size)}, w)
		}
	}
}

// The promise asks nothing of the addresses: what is built between odd ones is parsed between these.
func TestBuildAddresses(t *testing.T) {
	for _, w := range slices.Concat(ways(), oddWays()) {
		for size := range 9 {
			s := told(size)
			checkBuild(t, s, w)
			s.SrcPort = -1
			checkArg(t, s, w)
		}
	}
}

// More than one argument that may not be is the same error.
func TestBuildOfNothingRight(t *testing.T) {
	for i := range 16 {
		s := told(3)
		if i&1 > 0 {
			s.SrcPort = 65_536
		}
		if i&2 > 0 {
			s.DstPort = -1
		}
		if i&4 > 0 {
			s.Flags = 64
		}
		if i&8 > 0 {
			s.Payload = make([]byte, 65_516)
		}
		for _, w := range ways() {
			if i > 0 {
				checkArg(t, s, w)
			}
			checkBuild(t, s, w)
		}
	}
}

func TestBuildOfAnything(t *testing.T) {
	seed := uint32(88)
	for i := range 50_000 {
		m := make([]byte, 120)
		random(&seed, m)
		w := way{v4(m[13:17]...), v4(m[17:21]...)}
		if i%2 == 0 {
			w = way{v6(m[13:29]...), v6(m[29:45]...)}
		}
		checkBuild(t, api.Segment{SrcPort: int(fourBytes(m, 0) % 65_536), DstPort: int(fourBytes(m, 2) % 65_536), Seq: fourBytes(m, 4), Ack: fourBytes(m, 8), Flags: int(m[12] % 64), Payload: m[45 : 45+i%70]}, w)
	}
}

// Each sum that there may be, also 0, which stays 0.
func TestBuildEverySum(t *testing.T) {
	for _, w := range ways() {
		zero := 0
		for v := range 1 << 16 {
			s := api.Segment{Payload: []byte{byte(v / 256), byte(v % 256)}}
			checkBuild(t, s, w)
			if b, _ := Build(s, w.src, w.dst); len(b) == 22 && b[16] == 0 && b[17] == 0 {
				zero++
			}
		}
		if zero != 1 {
			t.Errorf("P8.1: of all payloads of two bytes %d make the sum 0; want 1", zero)
		}
	}
}

// fill writes v into all of b, and into the room behind its end.
func fill(b []byte, v byte) {
	b = b[:cap(b)]
	for i := range b {
		b[i] = v
	}
}

// Neither the bytes nor the room behind their end are written or kept, and two answers share nothing.
func TestParseIsNew(t *testing.T) {
	for _, w := range ways() {
		for fours := 5; fours <= 15; fours++ {
			for bears := range 40 {
				room := append(segment(fours, bears, w), bytes.Repeat([]byte{7}, 50)...)
				before := bytes.Clone(room)
				b := room[:4*fours+bears]
				first, _ := Parse(b, w.src, w.dst)
				second, _ := Parse(b, w.src, w.dst)
				fill(first.Payload, 99)
				if !same(second, told(bears)) || !bytes.Equal(room, before) {
					t.Errorf("R3: who writes into what Parse answered changes others: %+v, %v", second, room)
				}
				if fill(room, 55); !same(second, told(bears)) {
					t.Errorf("R3: Parse kept what it was given: %+v", second)
				}
			}
		}
	}
}

func TestBuildIsNew(t *testing.T) {
	for _, w := range ways() {
		for size := range 40 {
			room := bytes.Repeat([]byte{7}, 120)
			s := told(0)
			s.Payload = room[30 : 30+size]
			first, _ := Build(s, w.src, w.dst)
			second, _ := Build(s, w.src, w.dst)
			want := built(s, w)
			if !bytes.Equal(room, bytes.Repeat([]byte{7}, 120)) {
				t.Errorf("R3: Build wrote into what it was given: %v", room)
			}
			fill(first, 99)
			if !bytes.Equal(second, want) || !bytes.Equal(room, bytes.Repeat([]byte{7}, 120)) {
				t.Errorf("R3: who writes into what Build answered changes others: %v, %v", second, room)
			}
			if fill(room, 55); !bytes.Equal(second, want) {
				t.Errorf("R3: Build kept what it was given: %v", second)
			}
		}
	}
}

// Who writes into an error changes no other one.
func TestErrorsAreNew(t *testing.T) {
	w := ways()[0]
	wrong := segment(5, 3, w)
	wrong[19]++
	for _, r := range []struct {
		b     []byte
		code  api.Errno
		place int
	}{{nil, api.ErrShort, 0}, {wrong[:19], api.ErrShort, 0}, {turned(wrong, w, 12, 0x40), api.ErrLength, 12}, {turned(wrong, w, 12, 0x60), api.ErrLength, 12}, {wrong, api.ErrSum, 16}} {
		_, held := Parse(r.b, w.src, w.dst)
		_, next := Parse(r.b, w.src, w.dst)
		var f *api.Fault
		if !errors.As(next, &f) {
			t.Fatalf("R4: %v: no place in it", next)
		}
		f.At, f.Err = 77, api.ErrBig
		if !is(held, r.code, r.place) {
			t.Errorf("R3: who writes into one error changes another: %v", held)
		}
		checkError(t, r.b, w, r.code, r.place)
	}
}

// Whatever was asked ahead, the same answer comes.
func TestAnswersHangOnArgumentsAlone(t *testing.T) {
	for range 3 {
		for _, w := range ways() {
			checkRight(t, segment(7, 4, w), w, told(4))
			checkBuild(t, told(9), w)
			checkError(t, append(segment(7, 4, w), 1), w, api.ErrSum, 16)
			checkArg(t, api.Segment{Flags: 64}, w)
			checkError(t, nil, w, api.ErrShort, 0)
			checkBuild(t, api.Segment{}, w)
			checkRight(t, segment(5, 0, w), w, told(0))
		}
	}
}
