package udp

import (
	"bytes"
	"errors"
	"fmt"
	"math"
	"slices"
	"testing"

	"stockade/api"
	"stockade/fault"
)

// noPlace: of an error that says none.
const noPlace = -1

// is tells whether e is an error of that number at that place; of 0 whether there is none.
func is(e error, code api.Errno, at int) bool {
	if code == 0 {
		return e == nil
	}
	place, placed := fault.Place(e)
	if !placed {
		place = noPlace
	}
	return errors.Is(e, code) && fault.Code(e) == code && place == at
}

// same tells whether all fields of a and b are, with nil as nothing.
func same(a, b api.Datagram) bool {
	return a.SrcPort == b.SrcPort && a.DstPort == b.DstPort && bytes.Equal(a.Payload, b.Payload)
}

// first: the first bytes of b, which are enough to tell one row from another.
func first(b []byte) []byte {
	return b[:min(len(b), 50)]
}

// shown: d with the first bytes of its payload alone, and how many it has: a message of all of them would be of no use.
func shown(d api.Datagram) string {
	return fmt.Sprintf("from %d to %d: %v (%d bytes)", d.SrcPort, d.DstPort, first(d.Payload), len(d.Payload))
}

// way: from where to where a datagram goes.
type way struct{ src, dst api.Addr }

// v4, v6: addresses that begin with these bytes.
func v4(b ...byte) (a api.Addr) {
	copy(a.B[:4], b)
	return a
}

func v6(b ...byte) (a api.Addr) {
	a.V6 = true
	copy(a.B[:], b)
	return a
}

// ways: one of each version; a new list each time.
func ways() []way {
	return []way{
		{v4(10, 1, 2, 3), v4(9, 8, 7, 6)},
		{v6(0xfe, 0x80, 3, 0, 0, 0, 0, 0, 5, 0, 0, 0, 0, 0, 7, 1), v6(0x20, 1, 0xd, 0xb8, 0, 9, 0, 0, 0, 0, 0, 0, 0, 0, 0, 2)},
	}
}

// oddWays: such as no packet has: only src's version says what counts of them.
func oddWays() []way {
	long := api.Addr{B: [16]byte{1, 2, 3, 4, 5, 6, 7, 8, 9}}
	r := ways()
	return []way{
		{r[0].src, r[1].dst}, {r[1].src, r[0].dst}, {long, long}, {long, r[1].src}, {r[1].src, long},
		{v4(), v4()}, {v6(), v6()},
		{v4(255, 255, 255, 255), v4(255, 255, 255, 255)}, {v6(bytes.Repeat([]byte{255}, 16)...), v6(bytes.Repeat([]byte{255}, 16)...)},
	}
}

// total: all numbers of two bytes of what is summed: the addresses, the protocol and the length, and b.
func total(b []byte, w way) int {
	width := 4
	if w.src.V6 {
		width = 16
	}
	p := slices.Concat(w.src.B[:width], w.dst.B[:width])
	n := len(b)
	if w.src.V6 {
		p = append(p, byte(n/16_777_216), byte(n/65_536), byte(n/256), byte(n), 0, 0, 0, 17)
	} else {
		p = append(p, 0, 17, byte(n/256), byte(n))
	}
	all := 0
	for i, v := range append(p, b...) {
		if i%2 == 0 {
			all += 256 * int(v)
		} else {
			all += int(v)
		}
	}
	return all
}

// two: the number of the two bytes there.
func two(b []byte, at int) int {
	return 256*int(b[at]) + int(b[at+1])
}

// expected: what the promise says of Parse(b), sentence by sentence.
// A sum is 0 just where all numbers together are a multiple of 65,535: with the protocol among them they are never 0.
func expected(b []byte, w way) (d api.Datagram, code api.Errno, place int) {
	if len(b) < 8 {
		return d, api.ErrShort, 0
	}
	size := two(b, 4)
	if size < 8 || size > len(b) {
		return d, api.ErrLength, 4
	}
	b = b[:size]
	if two(b, 6) == 0 {
		if w.src.V6 {
			return d, api.ErrSum, 6
		}
	} else if total(b, w)%65_535 != 0 {
		return d, api.ErrSum, 6
	}
	return api.Datagram{SrcPort: two(b, 0), DstPort: two(b, 2), Payload: b[8:]}, 0, 0
}

// checkParse holds Parse of b against the promise. As all checks it ends its test with the first fault: of many alike one says enough.
func checkParse(t *testing.T, b []byte, w way) {
	t.Helper()
	before := bytes.Clone(b)
	want, code, place := expected(b, w)
	d, e := Parse(b, w.src, w.dst)
	if !same(d, want) || !is(e, code, place) {
		t.Fatalf("P9.1: Parse of %d bytes (%v ..), %v: %s, %v; want %s, %d at %d", len(b), first(b), w, shown(d), e, shown(want), code, place)
	}
	if !bytes.Equal(b, before) {
		t.Fatalf("R3: Parse changed the %d bytes that were handed in", len(b))
	}
}

// checkError: Parse of b is just that error.
func checkError(t *testing.T, b []byte, w way, code api.Errno, place int) {
	t.Helper()
	if d, e := Parse(b, w.src, w.dst); !same(d, api.Datagram{}) || !is(e, code, place) {
		t.Fatalf("P9.1: Parse of %d bytes (%v ..), %v: %s, %v; want %d at %d", len(b), first(b), w, shown(d), e, code, place)
	}
	checkParse(t, b, w)
}

// checkRight: Parse of b is that datagram.
func checkRight(t *testing.T, b []byte, w way, want api.Datagram) {
	t.Helper()
	if d, e := Parse(b, w.src, w.dst); !same(d, want) || e != nil {
		t.Fatalf("P9.1: Parse of %d bytes (%v ..), %v: %s, %v; want %s", len(b), first(b), w, shown(d), e, shown(want))
	}
	checkParse(t, b, w)
}

// summed: b with the sum put right of its first size bytes; it is 65,535 where the others are a multiple of 65,535.
func summed(b []byte, size int, w way) []byte {
	b = bytes.Clone(b)
	b[6], b[7] = 0, 0
	v := 65_535 - total(b[:size], w)%65_535
	b[6], b[7] = byte(v/256), byte(v%256)
	return b
}

// turned: b with bytes at places, and its sum put right, of all of it.
func turned(b []byte, w way, at ...int) []byte {
	b = bytes.Clone(b)
	for i := 0; i < len(at); i += 2 {
		b[at[i]] = byte(at[i+1])
	}
	return summed(b, len(b), w)
}

// sized: b with that length in its head.
func sized(b []byte, v int) []byte {
	b = bytes.Clone(b)
	b[4], b[5] = byte(v/256), byte(v%256)
	return b
}

// unsummed: b with 0 for its sum.
func unsummed(b []byte) []byte {
	b = bytes.Clone(b)
	b[6], b[7] = 0, 0
	return b
}

// datagram: with so many bytes behind its head.
func datagram(bears int, w way) []byte {
	b := sized(append([]byte{0x12, 0x34, 0x56, 0x78, 0, 0, 0, 0}, counted(bears)...), 8+bears)
	return summed(b, len(b), w)
}

// counted: so many bytes that a datagram bears.
func counted(n int) []byte {
	b := make([]byte, n)
	for i := range b {
		b[i] = byte(7*i + 1)
	}
	return b
}

// parsed: what a datagram with so many bytes is parsed as.
func parsed(bears int) api.Datagram {
	return api.Datagram{SrcPort: 0x1234, DstPort: 0x5678, Payload: counted(bears)}
}

func TestExample(t *testing.T) {
	for _, w := range slices.Concat(ways(), oddWays()) {
		for _, b := range [][]byte{nil, {}, make([]byte, 0, 50), datagram(3, w)[:0]} {
			checkError(t, b, w, api.ErrShort, 0)
		}
	}
}

// Datagrams, and the sum of each, that were worked out by hand, so that the tests' own answers are held against something, too.
func TestByHand(t *testing.T) {
	short, long := way{v4(10, 1, 2, 3), v4(9, 8, 7, 6)}, way{v6(0xfe, 0x80, 0, 0, 0, 0, 0, 0, 0, 0, 0, 0, 0, 0, 0, 1), v6(0, 0, 0, 0, 0, 0, 0, 0, 0, 0, 0, 0, 0, 0, 0, 2)}
	for _, r := range []struct {
		w way
		d api.Datagram
		b []byte
	}{
		// 0a01 + 0203 + 0908 + 0706 + 0011 + 0009, then 1234 + 5678 + 0009 + 0900: 8de1.
		{short, api.Datagram{SrcPort: 0x1234, DstPort: 0x5678, Payload: []byte{9}}, []byte{0x12, 0x34, 0x56, 0x78, 0, 9, 0x72, 0x1e, 9}},
		// fe80 + 0001 + 0002 + 0009 + 0011, then the same: 17052, which is 7053.
		{long, api.Datagram{SrcPort: 0x1234, DstPort: 0x5678, Payload: []byte{9}}, []byte{0x12, 0x34, 0x56, 0x78, 0, 9, 0x8f, 0xac, 9}},
		// 0011 + 0008 + 0008.
		{way{}, api.Datagram{}, []byte{0, 0, 0, 0, 0, 8, 0xff, 0xde}},
		{way{v6(), v6()}, api.Datagram{}, []byte{0, 0, 0, 0, 0, 8, 0xff, 0xde}},
		// Two numbers of ffff, which count as one, and the same: that one is no more than 0.
		{way{}, api.Datagram{SrcPort: 65_535, DstPort: 65_535}, []byte{255, 255, 255, 255, 0, 8, 0xff, 0xde}},
		// 0011 + 000a + 000a + ffda: that is ffff, and the sum 0.
		{way{}, api.Datagram{Payload: []byte{0xff, 0xda}}, []byte{0, 0, 0, 0, 0, 10, 255, 255, 0xff, 0xda}},
		{way{v6(), v6()}, api.Datagram{Payload: []byte{0xff, 0xda}}, []byte{0, 0, 0, 0, 0, 10, 255, 255, 0xff, 0xda}},
		// 0011 + 000b + 000b + f0d8 + 0f00: the same, of an odd number.
		{way{}, api.Datagram{Payload: []byte{0xf0, 0xd8, 0x0f}}, []byte{0, 0, 0, 0, 0, 11, 255, 255, 0xf0, 0xd8, 0x0f}},
		{way{v6(), v6()}, api.Datagram{Payload: []byte{0xf0, 0xd8, 0x0f}}, []byte{0, 0, 0, 0, 0, 11, 255, 255, 0xf0, 0xd8, 0x0f}},
	} {
		if b, e := Build(r.d, r.w.src, r.w.dst); e != nil || !bytes.Equal(b, r.b) {
			t.Errorf("P9.1: Build of %+v, %v: %v, %v; want %v", r.d, r.w, b, e, r.b)
		}
		checkBuild(t, r.d, r.w)
		checkRight(t, r.b, r.w, r.d)
		checkRight(t, append(bytes.Clone(r.b), 1, 2, 3), r.w, r.d)
		r.b[1] ^= 1
		checkError(t, r.b, r.w, api.ErrSum, 6)
	}
}

func TestParseRight(t *testing.T) {
	for _, w := range slices.Concat(ways(), oddWays()) {
		for bears := range 200 {
			checkRight(t, datagram(bears, w), w, parsed(bears))
		}
		for _, bears := range []int{255, 256, 1_940, 1_941, 4_002, 32_767, 32_768, 65_526, 65_527} {
			checkRight(t, datagram(bears, w), w, parsed(bears))
		}
	}
}

// Too few bytes are the first thing that is wrong, whatever is in them, and whatever stands behind their end.
func TestParseShort(t *testing.T) {
	for _, w := range slices.Concat(ways(), oddWays()) {
		for size := range 8 {
			for _, whole := range [][]byte{datagram(0, w), datagram(9, w), sized(datagram(0, w), size), unsummed(datagram(3, w))} {
				checkError(t, whole[:size], w, api.ErrShort, 0)
				checkError(t, bytes.Clone(whole[:size]), w, api.ErrShort, 0)
			}
			for v := range 256 {
				checkError(t, bytes.Repeat([]byte{byte(v)}, size), w, api.ErrShort, 0)
			}
		}
		checkRight(t, datagram(0, w), w, parsed(0))
	}
}

// Each length that a head may tell, with the sum put right of so many bytes, and of all: what is behind them plays no part.
func TestParseLength(t *testing.T) {
	for _, w := range ways() {
		for bears := range 50 {
			size := 8 + bears
			for v := range size + 2 {
				b := sized(datagram(bears, w), v)
				if v < 8 || v > size {
					checkError(t, summed(b, size, w), w, api.ErrLength, 4)
					checkError(t, unsummed(b), w, api.ErrLength, 4)
					continue
				}
				want := parsed(v - 8)
				checkRight(t, summed(b, v, w), w, want)
				for at := v; at < size; at++ {
					other := summed(b, v, w)
					other[at] += 77
					checkRight(t, other, w, want)
				}
				if v < size {
					checkError(t, summed(b, size, w), w, api.ErrSum, 6)
				}
				other := summed(b, v, w)
				other[v-1]++
				checkError(t, other, w, api.ErrSum, 6)
			}
		}
	}
}

// Each number at 4, in datagrams of no more bytes than a few of them.
func TestParseEveryLength(t *testing.T) {
	for _, w := range ways() {
		for _, size := range []int{8, 9, 255, 256, 257, 300} {
			b := datagram(size-8, w)
			for v := range 1 << 16 {
				switch other := sized(b, v); {
				case v < 8 || v > size:
					checkError(t, other, w, api.ErrLength, 4)
				case v == size:
					checkRight(t, other, w, parsed(size-8))
				default:
					checkRight(t, summed(other, v, w), w, parsed(v-8))
				}
			}
		}
		whole := datagram(65_527, w)
		for v := 0; v < 65_536; v += 127 {
			checkParse(t, summed(sized(whole, v), v, w), w)
		}
		checkRight(t, append(bytes.Clone(whole), 1, 2, 3), w, parsed(65_527))
		checkError(t, whole[:65_534], w, api.ErrLength, 4)
	}
}

// More bytes than a length can say are no fault: a datagram is what b begins with.
func TestParseOfVeryMany(t *testing.T) {
	for _, w := range ways() {
		for _, more := range []int{1, 2, 65_528, 65_536, 200_001, 3_000_000} {
			b := append(datagram(4, w), bytes.Repeat([]byte{5}, more)...)
			checkRight(t, b, w, parsed(4))
			b[11]++
			checkError(t, b, w, api.ErrSum, 6)
		}
	}
}

// What would make up the length may stand behind the end: it is not there.
func TestParseRoomBehindTheEnd(t *testing.T) {
	for _, w := range ways() {
		whole := datagram(30, w)
		before := bytes.Clone(whole)
		for size := range len(whole) {
			if size < 8 {
				checkError(t, whole[:size], w, api.ErrShort, 0)
			} else {
				checkError(t, whole[:size], w, api.ErrLength, 4)
			}
		}
		checkRight(t, whole, w, parsed(30))
		if !bytes.Equal(whole, before) {
			t.Errorf("R3: Parse wrote behind the end of what it was given")
		}
	}
}

// 0 for a sum says that there is none: of version 4 whatever is in the datagram goes, of version 6 nothing does.
func TestParseWithoutSum(t *testing.T) {
	for _, w := range slices.Concat(ways(), oddWays()) {
		for bears := range 20 {
			b := unsummed(datagram(bears, w))
			for at := range b {
				if at >= 4 && at < 8 {
					continue
				}
				for _, v := range []byte{1, 2, 128, 255} {
					other := bytes.Clone(b)
					other[at] ^= v
					if w.src.V6 {
						checkError(t, other, w, api.ErrSum, 6)
					} else {
						checkRight(t, other, w, api.Datagram{SrcPort: two(other, 0), DstPort: two(other, 2), Payload: other[8:]})
					}
				}
			}
			for v := range len(b) + 2 {
				checkParse(t, sized(b, v), w)
			}
			// One byte of it that is not 0 is a sum, and a wrong one.
			for _, at := range []int{6, 7} {
				other := bytes.Clone(b)
				other[at] = 1
				checkError(t, other, w, api.ErrSum, 6)
			}
		}
	}
}

// even: a datagram whose numbers are a multiple of 65,535 without its sum.
func even(w way) []byte {
	b := turned(datagram(5, w), w, 8, 0, 9, 0)
	b[8], b[9] = b[6], b[7]
	return unsummed(b)
}

// Each number as the sum: one is right, and 0 of version 4; where the others have the sum 0, 65,535 is, and of version 6 not 0.
func TestParseEverySum(t *testing.T) {
	for _, w := range slices.Concat(ways(), oddWays()) {
		plain, none := datagram(3, w), even(w)
		if total(none, w)%65_535 != 0 {
			t.Fatalf("the tests' own datagram %v has no sum of 0", none)
		}
		for _, r := range []struct {
			b     []byte
			right int
		}{{plain, two(plain, 6)}, {none, 65_535}} {
			for v := range 1 << 16 {
				b := bytes.Clone(r.b)
				b[6], b[7] = byte(v/256), byte(v%256)
				if v == r.right || v == 0 && !w.src.V6 {
					checkRight(t, b, w, api.Datagram{SrcPort: 0x1234, DstPort: 0x5678, Payload: b[8:]})
				} else {
					checkError(t, b, w, api.ErrSum, 6)
				}
			}
		}
	}
}

// One bit turned makes the sum wrong, wherever it is: two numbers that differ in one bit are not alike.
func TestParseEveryBitTurned(t *testing.T) {
	for _, w := range ways() {
		for bears := range 60 {
			whole := datagram(bears, w)
			for at := range whole {
				for bit := range 8 {
					b := bytes.Clone(whole)
					b[at] ^= 1 << bit
					if n := two(b, 4); n < 8 || n > len(b) {
						checkError(t, b, w, api.ErrLength, 4)
					} else {
						checkError(t, b, w, api.ErrSum, 6)
					}
				}
			}
		}
	}
}

// The sum is of both addresses, whole, and of src's version; in turn they have the same.
func TestParseAddresses(t *testing.T) {
	for _, w := range ways() {
		b := datagram(5, w)
		checkRight(t, b, way{w.dst, w.src}, parsed(5))
		for at := range 16 {
			for bit := range 8 {
				from, to := w, w
				from.src.B[at] ^= 1 << bit
				to.dst.B[at] ^= 1 << bit
				for _, other := range []way{from, to} {
					if w.src.V6 || at < 4 {
						checkError(t, b, other, api.ErrSum, 6)
					} else {
						checkRight(t, b, other, parsed(5))
					}
				}
			}
		}
		checkError(t, b, way{w.src, w.src}, api.ErrSum, 6)
		checkError(t, b, way{w.dst, w.dst}, api.ErrSum, 6)
		checkError(t, b, way{}, api.ErrSum, 6)
	}
	r := ways()
	checkError(t, datagram(9, r[0]), r[1], api.ErrSum, 6)
	checkError(t, datagram(9, r[1]), r[0], api.ErrSum, 6)
	for _, w := range r {
		for _, odd := range oddWays() {
			checkParse(t, datagram(9, w), odd)
			checkParse(t, datagram(9, odd), w)
		}
	}
}

// src's version alone says which one it is.
func TestParseVersion(t *testing.T) {
	for _, w := range ways() {
		b := datagram(5, w)
		src, dst := w, w
		src.src.V6, dst.dst.V6 = !w.src.V6, !w.dst.V6
		checkRight(t, b, dst, parsed(5))
		// Of version 6 the bytes behind the first four of these addresses are 0, and add nothing; of version 4 they don't count.
		if w.src.V6 {
			checkError(t, b, src, api.ErrSum, 6)
			checkError(t, unsummed(b), w, api.ErrSum, 6)
			checkError(t, unsummed(b), dst, api.ErrSum, 6)
			checkRight(t, unsummed(b), src, parsed(5))
		} else {
			checkRight(t, b, src, parsed(5))
			checkRight(t, unsummed(b), w, parsed(5))
			checkRight(t, unsummed(b), dst, parsed(5))
			checkError(t, unsummed(b), src, api.ErrSum, 6)
		}
	}
}

// A datagram with the sum that another protocol would make is wrong.
func TestParseSumsTheProtocol(t *testing.T) {
	for _, w := range ways() {
		b := datagram(9, w)
		right := two(b, 6)
		for proto := range 256 {
			v := right + 17 - proto
			b[6], b[7] = byte(v/256), byte(v%256)
			if proto == api.Udp {
				checkRight(t, b, w, parsed(9))
			} else {
				checkError(t, b, w, api.ErrSum, 6)
			}
		}
	}
}

func TestParsePorts(t *testing.T) {
	for _, w := range ways() {
		for v := range 1 << 16 {
			want := parsed(4)
			want.SrcPort = v
			checkRight(t, turned(datagram(4, w), w, 0, v/256, 1, v%256), w, want)
			want = parsed(4)
			want.DstPort = v
			checkRight(t, turned(datagram(4, w), w, 2, v/256, 3, v%256), w, want)
		}
	}
}

// Of more than one thing that is wrong the one that is named first is told.
func TestParseOrder(t *testing.T) {
	for _, w := range ways() {
		b := datagram(4, w)
		b[3] ^= 1
		for _, sum := range []byte{0, 5} {
			b[6], b[7] = sum, sum
			for _, v := range []int{0, 7, 13, 14, 256, 65_535} {
				checkError(t, sized(b, v), w, api.ErrLength, 4)
				for size := range 8 {
					checkError(t, sized(b, v)[:size], w, api.ErrShort, 0)
				}
				checkError(t, sized(b, v)[:8], w, api.ErrLength, 4)
			}
			if sum > 0 || w.src.V6 {
				checkError(t, b, w, api.ErrSum, 6)
				checkError(t, sized(b, 8)[:8], w, api.ErrSum, 6)
			}
		}
	}
}

// random: bytes that look like no row.
func random(seed *uint32, b []byte) {
	for i := range b {
		*seed = *seed*1_664_525 + 1_013_904_223
		b[i] = byte(*seed >> 24)
	}
}

// randomWay: of 32 such bytes, of either version.
func randomWay(b []byte, long bool) way {
	if long {
		return way{v6(b[:16]...), v6(b[16:32]...)}
	}
	return way{v4(b...), v4(b[16:]...)}
}

func TestParseOfAnything(t *testing.T) {
	seed := uint32(9)
	for i := range 100_000 {
		m := make([]byte, 120)
		random(&seed, m)
		w := randomWay(m[80:], i%2 == 0)
		b := m[:int(m[119])%80]
		checkParse(t, b, w)
		if len(b) < 8 {
			continue
		}
		checkParse(t, summed(b, len(b), w), w)
		b = sized(b, int(m[118])%(len(b)+4))
		checkParse(t, b, w)
		checkParse(t, unsummed(b), w)
		checkParse(t, summed(b, min(two(b, 4), len(b)), w), w)
	}
}

// built: what the promise says of Build, byte by byte; nil, if an argument may not be.
func built(d api.Datagram, w way) []byte {
	for _, port := range []int{d.SrcPort, d.DstPort} {
		if port < 0 || port > 65_535 {
			return nil
		}
	}
	if len(d.Payload) > 65_527 {
		return nil
	}
	b := []byte{byte(d.SrcPort / 256), byte(d.SrcPort % 256), byte(d.DstPort / 256), byte(d.DstPort % 256), 0, 0, 0, 0}
	b = sized(append(b, d.Payload...), 8+len(d.Payload))
	return summed(b, len(b), w)
}

// checkBuild: Build answers what the promise says, leaves what it is given, and what it built is parsed.
func checkBuild(t *testing.T, d api.Datagram, w way) {
	t.Helper()
	before := bytes.Clone(d.Payload)
	want := built(d, w)
	b, e := Build(d, w.src, w.dst)
	if want == nil && (!is(e, api.ErrArg, noPlace) || len(b) != 0) || want != nil && e != nil || !bytes.Equal(b, want) {
		t.Fatalf("P9.1: Build of %s, %v: %d bytes (%v ..), %v; want %d bytes (%v ..)", shown(d), w, len(b), first(b), e, len(want), first(want))
	}
	if !bytes.Equal(d.Payload, before) {
		t.Fatalf("R3: Build changed the %d bytes that were handed in", len(before))
	}
	if want == nil {
		return
	}
	if again, e := Parse(b, w.src, w.dst); e != nil || !same(again, d) {
		t.Fatalf("P9.1: what was built of %s, %v is parsed as %s, %v", shown(d), w, shown(again), e)
	}
	if len(b) != 8+len(d.Payload) || two(b, 6) == 0 || total(b, w)%65_535 != 0 {
		t.Fatalf("P9.1: what was built of %d bytes has %d, the sum %d, and that of its numbers %d", len(d.Payload), len(b), two(b, 6), total(b, w)%65_535)
	}
}

// checkArg: Build answers just that an argument may not be.
func checkArg(t *testing.T, d api.Datagram, w way) {
	t.Helper()
	if b, e := Build(d, w.src, w.dst); len(b) != 0 || !is(e, api.ErrArg, noPlace) {
		t.Fatalf("P9.1: Build of %s, %v: %d bytes, %v; want %d", shown(d), w, len(b), e, api.ErrArg)
	}
	checkBuild(t, d, w)
}

// beyond: numbers that are no port, some of them one by their lowest bytes.
func beyond() []int {
	return []int{-1, -2, -255, -256, -65_535, -65_536, 65_536, 65_537, 1 << 24, 1 << 32, 1<<32 + 5, math.MinInt32, math.MaxInt32, math.MaxUint32, math.MinInt, math.MinInt + 5, math.MaxInt, math.MaxInt - 5}
}

func TestBuildPorts(t *testing.T) {
	for _, w := range ways() {
		for v := range 1 << 16 {
			checkBuild(t, api.Datagram{SrcPort: v, DstPort: 3}, w)
			checkBuild(t, api.Datagram{SrcPort: 3, DstPort: v}, w)
		}
		for _, v := range []int{0, 1, 255, 256, 65_534, 65_535} {
			d := api.Datagram{SrcPort: v, DstPort: 65_535 - v, Payload: []byte{1}}
			if b, e := Build(d, w.src, w.dst); e != nil || len(b) != 9 || two(b, 0) != v || two(b, 2) != 65_535-v || two(b, 4) != 9 {
				t.Errorf("P9.1: Build of %s: %v, %v", shown(d), b, e)
			}
		}
		for _, v := range beyond() {
			checkArg(t, api.Datagram{SrcPort: v}, w)
			checkArg(t, api.Datagram{DstPort: v}, w)
			checkArg(t, api.Datagram{SrcPort: v, DstPort: v, Payload: []byte{1}}, w)
		}
	}
}

func TestBuildPayload(t *testing.T) {
	for _, w := range ways() {
		for _, payload := range [][]byte{nil, {}, make([]byte, 0, 9)} {
			checkBuild(t, api.Datagram{SrcPort: 1, Payload: payload}, w)
		}
		for size := range 600 {
			checkBuild(t, api.Datagram{SrcPort: 1, Payload: counted(size)}, w)
			checkBuild(t, api.Datagram{SrcPort: 1, Payload: make([]byte, size)}, w)
		}
		for size := 65_510; size < 65_560; size++ {
			for _, payload := range [][]byte{counted(size), make([]byte, size), bytes.Repeat([]byte{255}, size)} {
				b, e := Build(api.Datagram{Payload: payload}, w.src, w.dst)
				if (e == nil) != (size <= 65_527) || e == nil && len(b) != 8+size {
					t.Errorf("P9.1: Build of a payload of %d bytes: %d bytes, %v", size, len(b), e)
				}
				checkBuild(t, api.Datagram{Payload: payload}, w)
			}
		}
		for _, size := range []int{65_528, 65_535, 65_536, 65_537, 131_063, 131_072, 3_000_000} {
			checkArg(t, api.Datagram{Payload: make([]byte, size)}, w)
		}
	}
}

// The promise asks nothing of the addresses: what is built between odd ones is parsed between these.
func TestBuildAddresses(t *testing.T) {
	for _, w := range slices.Concat(ways(), oddWays()) {
		for size := range 9 {
			d := parsed(size)
			checkBuild(t, d, w)
			d.SrcPort = -1
			checkArg(t, d, w)
		}
	}
}

// More than one argument that may not be is the same error.
func TestBuildOfNothingRight(t *testing.T) {
	for i := range 8 {
		d := parsed(3)
		if i&1 > 0 {
			d.SrcPort = 65_536
		}
		if i&2 > 0 {
			d.DstPort = -1
		}
		if i&4 > 0 {
			d.Payload = make([]byte, 65_528)
		}
		for _, w := range ways() {
			if i > 0 {
				checkArg(t, d, w)
			}
			checkBuild(t, d, w)
		}
	}
}

func TestBuildOfAnything(t *testing.T) {
	seed := uint32(99)
	for i := range 50_000 {
		m := make([]byte, 120)
		random(&seed, m)
		checkBuild(t, api.Datagram{SrcPort: two(m, 0), DstPort: two(m, 2), Payload: m[40 : 40+i%80]}, randomWay(m[4:], i%2 == 0))
	}
}

// Each sum that there may be, of payloads of two bytes and of three; for the one that is 0, 65,535 stands.
func TestBuildEverySum(t *testing.T) {
	for _, w := range slices.Concat(ways(), oddWays()) {
		for _, rest := range [][]byte{nil, {0x5a}} {
			stood := map[int]int{}
			for v := range 1 << 16 {
				d := api.Datagram{SrcPort: 7, DstPort: 53, Payload: append([]byte{byte(v / 256), byte(v % 256)}, rest...)}
				checkBuild(t, d, w)
				b, _ := Build(d, w.src, w.dst)
				stood[two(b, 6)]++
			}
			if stood[0] != 0 || stood[65_535] != 1 || len(stood) != 65_535 {
				t.Errorf("P9.1: of all payloads of two bytes and %v, %v: %d have the sum 0, %d 65,535, and there are %d sums", rest, w, stood[0], stood[65_535], len(stood))
			}
		}
	}
}

// fill writes v into all of b, and into the room behind its end.
func fill(b []byte, v byte) {
	b = b[:cap(b)]
	for i := range b {
		b[i] = v
	}
}

// Neither the bytes nor the room behind their end are written or kept, and two answers share nothing.
func TestParseIsNew(t *testing.T) {
	for _, w := range ways() {
		for bears := range 40 {
			for more := range 4 {
				room := append(datagram(bears, w), bytes.Repeat([]byte{7}, 50)...)
				before := bytes.Clone(room)
				b := room[:8+bears+more]
				one, _ := Parse(b, w.src, w.dst)
				other, _ := Parse(b, w.src, w.dst)
				fill(one.Payload, 99)
				if !same(other, parsed(bears)) || !bytes.Equal(room, before) {
					t.Errorf("R3: who writes into what Parse answered changes others: %s, %v", shown(other), room)
				}
				if fill(room, 55); !same(other, parsed(bears)) {
					t.Errorf("R3: Parse kept what it was given: %s", shown(other))
				}
			}
		}
	}
}

func TestBuildIsNew(t *testing.T) {
	for _, w := range ways() {
		for size := range 40 {
			room := bytes.Repeat([]byte{7}, 120)
			d := parsed(0)
			d.Payload = room[30 : 30+size]
			one, _ := Build(d, w.src, w.dst)
			other, _ := Build(d, w.src, w.dst)
			want := built(d, w)
			if !bytes.Equal(room, bytes.Repeat([]byte{7}, 120)) {
				t.Errorf("R3: Build wrote into what it was given: %v", room)
			}
			fill(one, 99)
			if !bytes.Equal(other, want) || !bytes.Equal(room, bytes.Repeat([]byte{7}, 120)) {
				t.Errorf("R3: who writes into what Build answered changes others: %v, %v", other, room)
			}
			if fill(room, 55); !bytes.Equal(other, want) {
				t.Errorf("R3: Build kept what it was given: %v", other)
			}
		}
	}
}

// Who writes into an error changes no other one.
func TestErrorsAreNew(t *testing.T) {
	w := ways()[1]
	wrong := datagram(3, w)
	wrong[9]++
	for _, r := range []struct {
		b     []byte
		code  api.Errno
		place int
	}{{nil, api.ErrShort, 0}, {wrong[:7], api.ErrShort, 0}, {sized(wrong, 7), api.ErrLength, 4}, {sized(wrong, 12), api.ErrLength, 4}, {wrong, api.ErrSum, 6}, {unsummed(wrong), api.ErrSum, 6}} {
		_, held := Parse(r.b, w.src, w.dst)
		_, next := Parse(r.b, w.src, w.dst)
		var f *api.Fault
		if !errors.As(next, &f) {
			t.Fatalf("R4: %v: no place in it", next)
		}
		f.At, f.Err = 77, api.ErrBig
		if !is(held, r.code, r.place) {
			t.Errorf("R3: who writes into one error changes another: %v", held)
		}
		checkError(t, r.b, w, r.code, r.place)
	}
}

// Whatever was asked ahead, the same answer comes.
func TestAnswersHangOnArgumentsAlone(t *testing.T) {
	for range 3 {
		for _, w := range ways() {
			checkRight(t, datagram(4, w), w, parsed(4))
			checkBuild(t, parsed(9), w)
			checkError(t, sized(datagram(4, w), 13), w, api.ErrLength, 4)
			checkArg(t, api.Datagram{DstPort: 65_536}, w)
			checkError(t, nil, w, api.ErrShort, 0)
			checkBuild(t, api.Datagram{}, w)
			checkRight(t, datagram(0, w), w, parsed(0))
			checkParse(t, unsummed(datagram(0, w)), w)
		}
	}
}
