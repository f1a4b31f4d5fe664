package ip6

import (
	"bytes"
	"errors"
	"math"
	"slices"
	"testing"

	"stockade/api"
	"stockade/fault"
)

// noPlace: of an error that says none.
const noPlace = -1

// is tells whether e is an error of that number at that place; of 0 whether there is none.
func is(e error, code api.Errno, at int) bool {
	if code == 0 {
		return e == nil
	}
	place, placed := fault.Place(e)
	if !placed {
		place = noPlace
	}
	return errors.Is(e, code) && fault.Code(e) == code && place == at
}

// headKinds: those of heads; a new list each time.
func headKinds() []int {
	return []int{0, 43, 44, 60}
}

// others: the kinds of one byte that are no head's.
func others() (l []int) {
	for v := range 256 {
		if !slices.Contains(headKinds(), v) {
			l = append(l, v)
		}
	}
	return l
}

// expected: what the promise says of Parse(b), sentence by sentence.
func expected(b []byte) (h api.Head, code api.Errno, place int) {
	if len(b) < 40 {
		return h, api.ErrShort, 0
	}
	if b[0]/16 != 6 {
		return h, api.ErrVersion, 0
	}
	to := 40 + 256*int(b[4]) + int(b[5])
	if to > len(b) {
		return h, api.ErrLength, 4
	}
	kind, at := int(b[6]), 40
	for before := 0; slices.Contains(headKinds(), kind); before++ {
		if kind == 0 && before > 0 {
			return h, api.ErrOrder, at
		}
		if before == 8 {
			return h, api.ErrDeep, at
		}
		if at+8 > to {
			return h, api.ErrShort, at
		}
		size := 8
		if kind != 44 {
			size = 8 + 8*int(b[at+1])
		}
		if at+size > to {
			return h, api.ErrShort, at
		}
		// Of the third byte all bits count, of the fourth the five highest and the lowest.
		if kind == 44 && (b[at+2] != 0 || b[at+3]/8 != 0 || b[at+3]%2 != 0) {
			return h, api.ErrFragment, at
		}
		kind, at = int(b[at]), at+size
	}
	h.Src.V6, h.Dst.V6 = true, true
	copy(h.Src.B[:], b[8:24])
	copy(h.Dst.B[:], b[24:40])
	h.Proto, h.From, h.To = kind, at, to
	return h, 0, 0
}

// checkParse holds Parse of b against the promise.
func checkParse(t *testing.T, b []byte) {
	t.Helper()
	before := bytes.Clone(b)
	want, code, place := expected(b)
	h, e := Parse(b)
	if h != want || !is(e, code, place) {
		t.Errorf("P7.1: Parse of %d bytes (%v ..): %+v, %v; want %+v, %d at %d", len(b), b[:min(len(b), 120)], h, e, want, code, place)
	}
	if !bytes.Equal(b, before) {
		t.Errorf("R3: Parse changed the %d bytes that were handed in", len(b))
	}
}

// checkError: Parse of b is just that error.
func checkError(t *testing.T, b []byte, code api.Errno, place int) {
	t.Helper()
	if h, e := Parse(b); h != (api.Head{}) || !is(e, code, place) {
		t.Errorf("P7.1: Parse of %d bytes (%v ..): %+v, %v; want %d at %d", len(b), b[:min(len(b), 120)], h, e, code, place)
	}
	checkParse(t, b)
}

// checkRight: Parse of b is that head.
func checkRight(t *testing.T, b []byte, want api.Head) {
	t.Helper()
	if h, e := Parse(b); h != want || e != nil {
		t.Errorf("P7.1: Parse of %d bytes (%v ..): %+v, %v; want %+v", len(b), b[:min(len(b), 120)], h, e, want)
	}
	checkParse(t, b)
}

// first: the forty bytes ahead, which tell a kind and so many bytes.
func first(kind, size int) []byte {
	b := []byte{0x6a, 11, 22, 33, byte(size / 256), byte(size % 256), byte(kind), 99}
	for i := range 32 {
		b = append(b, byte(100+i))
	}
	return b
}

// head: of so many eights, with the next kind in it. What plays no part in it is not 0.
func head(kind, next, eights int) []byte {
	b := []byte{byte(next), byte(eights - 1)}
	if kind == 44 {
		b = []byte{byte(next), 201, 0, 6}
	}
	for len(b) < 8*eights {
		b = append(b, byte(170+len(b)))
	}
	return b
}

// chained: heads of these kinds, of eight bytes each, the last one with proto as the next kind in it.
func chained(kinds []int, proto int) (b []byte) {
	nexts := append(slices.Clone(kinds), proto)
	for i, kind := range kinds {
		b = append(b, head(kind, nexts[i+1], 1)...)
	}
	return b
}

// packet: with heads of these kinds, and so many bytes that it bears; then so many behind it.
func packet(kinds []int, proto, bears, behind int) []byte {
	b := chained(kinds, proto)
	b = slices.Concat(first(append(slices.Clone(kinds), proto)[0], len(b)+bears), b)
	for i := range bears + behind {
		b = append(b, byte(7*i+1))
	}
	return b
}

// told: the head that a packet has.
func told(heads, proto, bears int) api.Head {
	h := api.Head{Src: api.Addr{V6: true}, Dst: api.Addr{V6: true}, Proto: proto, From: 40 + 8*heads, To: 40 + 8*heads + bears}
	for i := range 16 {
		h.Src.B[i], h.Dst.B[i] = byte(100+i), byte(116+i)
	}
	return h
}

// resized: b, as one that tells so many bytes behind the first forty.
func resized(b []byte, size int) []byte {
	b = bytes.Clone(b)
	b[4], b[5] = byte(size/256), byte(size%256)
	return b
}

// turned: b with bytes at places.
func turned(b []byte, at ...int) []byte {
	b = bytes.Clone(b)
	for i := 0; i < len(at); i += 2 {
		b[at[i]] = byte(at[i+1])
	}
	return b
}

// lists: each list of so many kinds of heads.
func lists(n int) (all [][]int) {
	if n == 0 {
		return [][]int{nil}
	}
	for _, l := range lists(n - 1) {
		for _, kind := range headKinds() {
			all = append(all, append(slices.Clone(l), kind))
		}
	}
	return all
}

func TestExample(t *testing.T) {
	for _, b := range [][]byte{nil, {}, make([]byte, 0, 90), packet(nil, 6, 0, 0)[:0]} {
		checkError(t, b, api.ErrShort, 0)
	}
}

// Packets that were written out by hand, so that the tests' own answers are held against something, too.
func TestParseByHand(t *testing.T) {
	ahead := []byte{0x60, 0, 0, 0, 0, 4, 58, 64, 0xfe, 0x80, 0, 0, 0, 0, 0, 0, 0, 0, 0, 0, 0, 0, 0, 1, 0xff, 2, 0, 0, 0, 0, 0, 0, 0, 0, 0, 0, 0, 0, 0, 2}
	want := api.Head{
		Src:   api.Addr{V6: true, B: [16]byte{0: 0xfe, 1: 0x80, 15: 1}},
		Dst:   api.Addr{V6: true, B: [16]byte{0: 0xff, 1: 2, 15: 2}},
		Proto: 58,
		From:  40,
		To:    44,
	}
	checkRight(t, append(bytes.Clone(ahead), 0, 0, 0, 0), want)
	checkRight(t, append(bytes.Clone(ahead), 44, 44, 44, 44, 44), want)
	checkError(t, append(bytes.Clone(ahead), 0, 0, 0), api.ErrLength, 4)

	ahead[5], ahead[6] = 43, 0
	heads := []byte{
		43, 1, 1, 1, 1, 1, 1, 1, 2, 2, 2, 2, 2, 2, 2, 2, // at 40
		44, 0, 3, 3, 3, 3, 3, 3, // at 56
		60, 255, 0, 6, 4, 4, 4, 4, // at 64
		59, 0, 5, 5, 5, 5, 5, 5, // at 72
		7, 7, 7,
	}
	whole := slices.Concat(ahead, heads)
	want.Proto, want.From, want.To = 59, 80, 83
	checkRight(t, whole, want)
	checkError(t, turned(whole, 40, 0), api.ErrOrder, 56)
	checkError(t, turned(whole, 56, 0), api.ErrOrder, 64)
	checkError(t, turned(whole, 64, 0), api.ErrOrder, 72)
	checkError(t, turned(whole, 72, 0), api.ErrOrder, 80)
	checkError(t, turned(whole, 72, 60), api.ErrShort, 80)
	checkError(t, turned(whole, 73, 1), api.ErrShort, 72)
	checkError(t, turned(whole, 57, 3), api.ErrShort, 56)
	checkError(t, turned(whole, 66, 128), api.ErrFragment, 64)
	checkError(t, turned(whole, 67, 1), api.ErrFragment, 64)
	checkError(t, turned(whole, 5, 39), api.ErrShort, 72)
	checkError(t, turned(whole, 5, 15), api.ErrShort, 40)
}

func TestParseWithoutHeads(t *testing.T) {
	for _, proto := range others() {
		for bears := range 50 {
			for behind := range 5 {
				checkRight(t, packet(nil, proto, bears, behind), told(0, proto, bears))
			}
		}
	}
	for _, bears := range []int{255, 256, 257, 1_960, 65_534, 65_535} {
		for _, behind := range []int{0, 1, 7, 8, 9, 200_000} {
			checkRight(t, packet(nil, 17, bears, behind), told(0, 17, bears))
		}
	}
}

// Too few bytes are the first thing that is wrong, whatever is in them, and whatever stands behind their end.
func TestParseShort(t *testing.T) {
	for v := range 256 {
		b := turned(packet([]int{60, 44}, 17, 9, 9), 0, v)
		for size := range 40 {
			checkError(t, b[:size], api.ErrShort, 0)
			checkError(t, bytes.Clone(b[:size]), api.ErrShort, 0)
			checkError(t, bytes.Repeat([]byte{byte(v)}, size), api.ErrShort, 0)
		}
	}
	b := first(6, 0)
	checkError(t, b[:39], api.ErrShort, 0)
	checkRight(t, b[:40], told(0, 6, 0))
}

func TestParseVersion(t *testing.T) {
	for v := range 256 {
		for _, b := range [][]byte{packet(nil, 6, 0, 0), packet(nil, 6, 5, 5), packet([]int{0, 43}, 6, 5, 0), resized(packet(nil, 6, 5, 5), 11), packet([]int{0, 0}, 6, 5, 0)} {
			b = turned(b, 0, v)
			if v/16 != 6 {
				checkError(t, b, api.ErrVersion, 0)
			}
			checkParse(t, b)
		}
	}
	for v := range 16 {
		checkRight(t, turned(packet([]int{60}, 6, 3, 0), 0, 0x60+v), told(1, 6, 3))
	}
}

// Just the bytes that are there, fewer, and one more, in packets of each size.
func TestParseSize(t *testing.T) {
	for there := range 90 {
		b := packet(nil, 17, there, 0)
		for size := range 300 {
			b := resized(b, size)
			if size > there {
				checkError(t, b, api.ErrLength, 4)
			} else {
				checkRight(t, b, told(0, 17, size))
			}
		}
	}
	for _, there := range []int{255, 256, 257, 1_000, 65_279, 65_280, 65_534, 65_535} {
		b := packet(nil, 17, 65_535, 0)[:40+there]
		checkRight(t, resized(b, there), told(0, 17, there))
		checkRight(t, resized(b, there-1), told(0, 17, there-1))
		if there < 65_535 {
			checkError(t, resized(b, there+1), api.ErrLength, 4)
		}
		// With what is ahead of it the number would be too great, and not only it.
		checkRight(t, resized(b, there-40), told(0, 17, there-40))
	}
}

func TestParseEverySize(t *testing.T) {
	for _, b := range [][]byte{first(17, 0), packet(nil, 17, 700, 0), packet([]int{0, 43}, 17, 700, 0), packet([]int{0, 0}, 17, 700, 0)} {
		for size := range 1 << 16 {
			checkParse(t, resized(b, size))
			if size > len(b)-40 {
				checkError(t, resized(b, size), api.ErrLength, 4)
			}
		}
	}
}

// Each kind of head alone, ahead of each other one, and in each list of three.
func TestParseHeads(t *testing.T) {
	for n := range 4 {
		for _, kinds := range lists(n) {
			zero := slices.Index(kinds[min(n, 1):], 0) + 1
			for bears := range 12 {
				for behind := range 10 {
					b := packet(kinds, 58, bears, behind)
					if zero > 0 {
						checkError(t, b, api.ErrOrder, 40+8*zero)
					} else {
						checkRight(t, b, told(n, 58, bears))
					}
				}
			}
		}
	}
}

// What a head has ahead may be any kind that is no head's.
func TestParseProtocolBehindHeads(t *testing.T) {
	for n := 1; n < 4; n++ {
		for _, kinds := range lists(n) {
			if slices.Contains(kinds[1:], 0) {
				continue
			}
			for _, proto := range others() {
				checkRight(t, packet(kinds, proto, 3, 1), told(n, proto, 3))
				checkRight(t, packet(kinds, proto, 0, 0), told(n, proto, 0))
			}
		}
	}
}

// A 0 in each place of lists of each length: but as the first one it is in the wrong order, there, where it stands.
func TestParseZeroLater(t *testing.T) {
	for n := 1; n <= 10; n++ {
		for _, kind := range []int{43, 44, 60} {
			for place := range n {
				kinds := slices.Repeat([]int{kind}, n)
				kinds[place] = 0
				b := packet(kinds, 6, 5, 0)
				switch {
				case place > 0 && place <= 8:
					checkError(t, b, api.ErrOrder, 40+8*place)
				case n > 8:
					checkError(t, b, api.ErrDeep, 104)
				default:
					checkRight(t, b, told(n, 6, 5))
				}
				// That it may not be here is told even where nothing of it is there.
				if place > 0 && place <= 8 {
					checkError(t, resized(b, 8*place), api.ErrOrder, 40+8*place)
				}
			}
		}
	}
	checkError(t, packet([]int{0, 0}, 6, 0, 0), api.ErrOrder, 48)
	checkError(t, packet([]int{43}, 0, 0, 0), api.ErrOrder, 48)
}

// As many heads as may be, and more of them, of each kind.
func TestParseDeep(t *testing.T) {
	for _, kind := range []int{43, 44, 60} {
		for n := range 20 {
			for _, start := range []int{kind, 0} {
				kinds := slices.Repeat([]int{kind}, n)
				if n > 0 {
					kinds[0] = start
				}
				b := packet(kinds, 6, 5, 3)
				if n <= 8 {
					checkRight(t, b, told(n, 6, 5))
				} else {
					checkError(t, b, api.ErrDeep, 104)
					// Nothing of the one too many need be there.
					checkError(t, resized(b, 64), api.ErrDeep, 104)
					checkError(t, resized(b, 64)[:104], api.ErrDeep, 104)
				}
			}
		}
		for _, bears := range []int{0, 7, 8, 100} {
			checkError(t, packet(slices.Repeat([]int{60}, 8), kind, bears, 9), api.ErrDeep, 104)
		}
	}
	// Of a 0 as the one too many its order is told, and nothing of it need be there.
	for _, bears := range []int{0, 7, 8, 100} {
		checkError(t, packet(slices.Repeat([]int{43}, 8), 0, bears, 0), api.ErrOrder, 104)
	}
}

// Heads for which fewer than eight bytes are there: each kind as each one, cut at each place, with more behind To and without.
func TestParseShortHead(t *testing.T) {
	for n := 1; n < 4; n++ {
		for _, kinds := range lists(n) {
			if slices.Contains(kinds[1:], 0) {
				continue
			}
			b := packet(kinds, 6, 0, 30)
			for size := range 8 * n {
				checkError(t, resized(b, size), api.ErrShort, 40+size/8*8)
				checkError(t, resized(b, size)[:40+size], api.ErrShort, 40+size/8*8)
				checkError(t, bytes.Clone(resized(b, size)[:40+size]), api.ErrShort, 40+size/8*8)
			}
			checkRight(t, b, told(n, 6, 0))
		}
	}
	for _, kind := range headKinds() {
		checkError(t, first(kind, 0), api.ErrShort, 40)
		checkError(t, append(first(kind, 0), make([]byte, 80)...), api.ErrShort, 40)
	}
}

// Heads of each length: just there, cut within the last one, and with the missing bytes behind To alone.
func TestParseLongHead(t *testing.T) {
	for _, kind := range []int{0, 43, 60} {
		for eights := 1; eights <= 256; eights++ {
			all := 8 * eights
			b := slices.Concat(first(kind, all), head(kind, 17, eights), []byte{1, 2, 3, 4, 5, 6, 7, 8, 9})
			for more := range 10 {
				want := told(eights, 17, more)
				checkRight(t, resized(b, all+more), want)
				checkRight(t, resized(b, all+more)[:40+all+more], want)
			}
			for _, size := range []int{0, 1, 7, 8, 9, 15, 16, all / 2, all - 9, all - 8, all - 7, all - 2, all - 1} {
				if size >= 0 && size < all {
					checkError(t, resized(b, size), api.ErrShort, 40)
					checkError(t, resized(b, size)[:40+size], api.ErrShort, 40)
				}
			}
		}
	}
}

// A longer head as a later one, and as one ahead of others: what is behind it stands behind all of it.
func TestParseLongHeadsInARow(t *testing.T) {
	for _, one := range headKinds() {
		for _, two := range []int{43, 44, 60} {
			for _, three := range []int{43, 44, 60} {
				for _, n := range []int{1, 2, 3, 32, 256} {
					// One of 44 has eight bytes whatever its second one tells.
					sizes := []int{1, n, 2}
					for i, kind := range []int{one, two, three} {
						if kind == 44 {
							sizes[i] = 1
						}
					}
					rest := slices.Concat(head(one, two, sizes[0]), head(two, three, sizes[1]), head(three, 58, sizes[2]))
					b := slices.Concat(first(one, len(rest)), rest)
					checkRight(t, b, told(len(rest)/8, 58, 0))
					checkError(t, resized(b, len(rest)-1), api.ErrShort, 40+len(rest)-8*sizes[2])
					checkError(t, resized(b, 8*sizes[1]+7), api.ErrShort, 48)
				}
			}
		}
	}
}

// Each second byte, in packets of each size.
func TestParseEverySecondByte(t *testing.T) {
	for _, kind := range headKinds() {
		for v := range 256 {
			for size := range 50 {
				b := turned(packet([]int{kind}, 6, 42, 0), 41, v)
				checkParse(t, resized(b, size))
				checkParse(t, resized(b, size)[:40+size])
			}
		}
	}
}

// Each number at the third byte of 44: of its bits just the two of 2 and 4 are no fault.
func TestParseEveryPart(t *testing.T) {
	for v := range 1 << 16 {
		b := turned(packet([]int{44}, 6, 3, 0), 42, v/256, 43, v%256)
		later := turned(packet([]int{0, 60, 44, 43}, 6, 3, 0), 58, v/256, 59, v%256)
		if v == 0 || v == 2 || v == 4 || v == 6 {
			checkRight(t, b, told(1, 6, 3))
			checkRight(t, later, told(4, 6, 3))
		} else {
			checkError(t, b, api.ErrFragment, 40)
			checkError(t, later, api.ErrFragment, 56)
		}
	}
	for bit := range 16 {
		b := turned(packet([]int{44}, 6, 0, 0), 42, 1<<bit/256, 43, 1<<bit%256)
		if _, e := Parse(b); (e == nil) != (bit == 1 || bit == 2) {
			t.Errorf("P7.1: Parse with the bit %d in the third and fourth byte of 44: %v", 1<<bit, e)
		}
	}
}

// Of 44 the second byte plays no part, nor do the last four; of others those behind the second.
func TestParsePassesOver(t *testing.T) {
	for v := range 256 {
		for _, at := range []int{41, 44, 45, 46, 47} {
			checkRight(t, turned(packet([]int{44}, 6, 3, 0), at, v), told(1, 6, 3))
			checkRight(t, turned(packet([]int{44, 60}, 6, 0, 0), at, v), told(2, 6, 0))
		}
		for _, kind := range []int{0, 43, 60} {
			for at := 42; at < 48; at++ {
				checkRight(t, turned(packet([]int{kind}, 6, 3, 0), at, v), told(1, 6, 3))
			}
		}
		for _, at := range []int{1, 2, 3, 7} {
			checkRight(t, turned(packet([]int{0, 44}, 6, 3, 0), at, v), told(2, 6, 3))
		}
		b := packet([]int{43}, 6, 9, 9)
		for at := 48; at < len(b); at++ {
			checkRight(t, turned(b, at, v), told(1, 6, 9))
		}
	}
}

// Each byte that is told, and no other place.
func TestParseTells(t *testing.T) {
	for v := range 256 {
		for i := range 16 {
			want := told(1, 6, 4)
			want.Src.B[i] = byte(v)
			checkRight(t, turned(packet([]int{60}, 6, 4, 2), 8+i, v), want)
			want = told(1, 6, 4)
			want.Dst.B[i] = byte(v)
			checkRight(t, turned(packet([]int{60}, 6, 4, 2), 24+i, v), want)
		}
	}
	zero := bytes.Clone(packet(nil, 6, 0, 0))
	clear(zero[8:])
	checkRight(t, zero, api.Head{Src: api.Addr{V6: true}, Dst: api.Addr{V6: true}, Proto: 6, From: 40, To: 40})
}

// Of more than one thing that is wrong the one that is named first is told; of heads the one that is first.
func TestParseOrder(t *testing.T) {
	eight := slices.Repeat([]int{43}, 8)
	for _, kinds := range [][]int{nil, {0}, {0, 0}, {44}, slices.Concat(eight, []int{43}), slices.Concat(eight, []int{0})} {
		b := packet(kinds, 6, 0, 0)
		checkError(t, resized(turned(b, 0, 0x45), 60_000)[:39], api.ErrShort, 0)
		checkError(t, resized(turned(b, 0, 0x45), 60_000), api.ErrVersion, 0)
		checkError(t, resized(b, 60_000), api.ErrLength, 4)
	}
	// A 0 in the wrong order that is too deep, and not there.
	checkError(t, packet(eight, 0, 0, 0), api.ErrOrder, 104)
	// One that is too deep, and not there, or there in part, or is a part.
	checkError(t, packet(eight, 60, 0, 0), api.ErrDeep, 104)
	checkError(t, turned(packet(eight, 60, 8, 0), 105, 200), api.ErrDeep, 104)
	checkError(t, turned(packet(eight, 44, 8, 0), 107, 1), api.ErrDeep, 104)
	// A part, of which fewer than eight bytes are there.
	part := turned(packet([]int{44}, 6, 9, 0), 42, 255, 43, 255)
	for size := range 8 {
		checkError(t, resized(part, size), api.ErrShort, 40)
	}
	checkError(t, resized(part, 8), api.ErrFragment, 40)
	// Two heads that are wrong, each in its own way.
	two := packet([]int{44, 0, 60}, 6, 0, 0)
	checkError(t, two, api.ErrOrder, 48)
	checkError(t, turned(two, 42, 1), api.ErrFragment, 40)
	long := turned(packet([]int{60, 44, 0}, 6, 0, 0), 51, 1)
	checkError(t, long, api.ErrFragment, 48)
	checkError(t, turned(long, 41, 3), api.ErrShort, 40)
	checkError(t, turned(long, 51, 0), api.ErrOrder, 56)
}

// random: bytes that look like no row.
func random(seed *uint32, b []byte) {
	for i := range b {
		*seed = *seed*1_664_525 + 1_013_904_223
		b[i] = byte(*seed >> 24)
	}
}

func TestParseOfAnything(t *testing.T) {
	seed := uint32(7)
	for range 100_000 {
		m := make([]byte, 200)
		random(&seed, m)
		b := bytes.Clone(m[:int(m[199])%160])
		checkParse(t, b)
		if len(b) < 40 {
			continue
		}
		b[0] = 0x60 + b[0]%16
		checkParse(t, b)
		b = resized(b, int(m[198])%130)
		checkParse(t, b)
		// Kinds of heads, short lengths and no parts where heads may stand, so that many of them are passed.
		b[6] = byte(headKinds()[m[197]%4])
		for at := 40; at+8 <= len(b); at += 8 {
			b[at] = byte([]int{43, 44, 60, 60, 0, 6}[m[at]%6])
			b[at+1] = byte([]int{0, 0, 0, 0, 1, 2, 3, 255}[m[at+1]%8])
			b[at+2], b[at+3] = m[at+2]/255, m[at+3]%7
		}
		checkParse(t, b)
		checkParse(t, resized(b, len(b)-40))
	}
}

// built: what the promise says of Build, byte by byte; nil, if an argument may not be.
func built(src, dst api.Addr, proto int, heads []int, b []byte) []byte {
	size := 8*len(heads) + len(b)
	if !src.V6 || !dst.V6 || !slices.Contains(others(), proto) || len(heads) > 8 || size > 65_535 {
		return nil
	}
	for i, kind := range heads {
		if !slices.Contains(headKinds(), kind) || kind == 0 && i > 0 {
			return nil
		}
	}
	f := []byte{96, 0, 0, 0, byte(size / 256), byte(size % 256), byte(proto), 64}
	if len(heads) > 0 {
		f[6] = byte(heads[0])
	}
	for _, a := range []api.Addr{src, dst} {
		for _, v := range a.B {
			f = append(f, v)
		}
	}
	for i := range heads {
		next := proto
		if i+1 < len(heads) {
			next = heads[i+1]
		}
		f = append(f, byte(next), 0, 0, 0, 0, 0, 0, 0)
	}
	return append(f, b...)
}

// checkBuild: Build answers what the promise says, leaves what it is given, and what it built is parsed.
func checkBuild(t *testing.T, src, dst api.Addr, proto int, heads []int, b []byte) {
	t.Helper()
	headsBefore, bytesBefore := slices.Clone(heads), bytes.Clone(b)
	want := built(src, dst, proto, heads, b)
	f, e := Build(src, dst, proto, heads, b)
	if want == nil && (!is(e, api.ErrArg, noPlace) || len(f) != 0) || want != nil && e != nil || !bytes.Equal(f, want) {
		t.Errorf("P7.2: Build from %v to %v, protocol %d, heads %v, %d bytes: %d bytes (%v ..), %v; want %d bytes (%v ..)", src, dst, proto, heads[:min(len(heads), 20)], len(b), len(f), f[:min(len(f), 120)], e, len(want), want[:min(len(want), 120)])
	}
	if !slices.Equal(heads, headsBefore) || !bytes.Equal(b, bytesBefore) {
		t.Errorf("R3: Build changed the heads or the %d bytes that were handed in", len(b))
	}
	if want == nil {
		return
	}
	h, e := Parse(f)
	if h != (api.Head{Src: src, Dst: dst, Proto: proto, From: 40 + 8*len(heads), To: len(f)}) || e != nil || !bytes.Equal(f[h.From:h.To], b) {
		t.Errorf("P7.2: what was built from %v to %v, protocol %d, heads %v, %d bytes is parsed as %+v, %v", src, dst, proto, heads, len(b), h, e)
	}
}

// checkArg: Build answers just that an argument may not be.
func checkArg(t *testing.T, src, dst api.Addr, proto int, heads []int, b []byte) {
	t.Helper()
	if f, e := Build(src, dst, proto, heads, b); len(f) != 0 || !is(e, api.ErrArg, noPlace) {
		t.Errorf("P7.2: Build from %v to %v, protocol %d, heads %v, %d bytes: %d bytes, %v; want %d", src, dst, proto, heads[:min(len(heads), 20)], len(b), len(f), e, api.ErrArg)
	}
	checkBuild(t, src, dst, proto, heads, b)
}

// v6: an address of version 6 that counts up from v.
func v6(v byte) api.Addr {
	a := api.Addr{V6: true}
	for i := range a.B {
		a.B[i] = v + byte(i)
	}
	return a
}

func TestBuildByHand(t *testing.T) {
	src, dst := api.Addr{V6: true, B: [16]byte{0: 0xfe, 1: 0x80, 15: 1}}, v6(10)
	addresses := []byte{0xfe, 0x80, 0, 0, 0, 0, 0, 0, 0, 0, 0, 0, 0, 0, 0, 1, 10, 11, 12, 13, 14, 15, 16, 17, 18, 19, 20, 21, 22, 23, 24, 25}
	for _, r := range []struct {
		proto         int
		heads         []int
		b             []byte
		ahead, behind []byte
	}{
		{58, nil, nil, []byte{96, 0, 0, 0, 0, 0, 58, 64}, nil},
		{255, []int{}, []byte{5}, []byte{96, 0, 0, 0, 0, 1, 255, 64}, []byte{5}},
		{17, []int{0}, nil, []byte{96, 0, 0, 0, 0, 8, 0, 64}, []byte{17, 0, 0, 0, 0, 0, 0, 0}},
		{6, []int{44, 60}, []byte{9, 8}, []byte{96, 0, 0, 0, 0, 18, 44, 64}, []byte{60, 0, 0, 0, 0, 0, 0, 0, 6, 0, 0, 0, 0, 0, 0, 0, 9, 8}},
		{1, []int{0, 43, 43}, []byte{0}, []byte{96, 0, 0, 0, 0, 25, 0, 64}, []byte{43, 0, 0, 0, 0, 0, 0, 0, 43, 0, 0, 0, 0, 0, 0, 0, 1, 0, 0, 0, 0, 0, 0, 0, 0}},
	} {
		want := slices.Concat(r.ahead, addresses, r.behind)
		if f, e := Build(src, dst, r.proto, r.heads, r.b); e != nil || !bytes.Equal(f, want) {
			t.Errorf("P7.2: Build of protocol %d, heads %v, %v: %v, %v; want %v", r.proto, r.heads, r.b, f, e, want)
		}
		checkBuild(t, src, dst, r.proto, r.heads, r.b)
	}
	for _, size := range []int{255, 256, 257, 0x1234, 65_535} {
		if f, e := Build(src, dst, 17, nil, make([]byte, size)); e != nil || len(f) != 40+size || int(f[4]) != size/256 || int(f[5]) != size%256 {
			t.Errorf("P7.2: Build of %d bytes: %d bytes, %v", size, len(f), e)
		}
	}
}

// Each byte of an address, in each of its sixteen places; of the other version none may be, be it right or not.
func TestBuildAddresses(t *testing.T) {
	src, dst := v6(1), v6(101)
	for at := range 16 {
		for v := range 256 {
			a := v6(50)
			a.B[at] = byte(v)
			checkBuild(t, a, dst, 6, nil, nil)
			checkBuild(t, src, a, 6, []int{60}, []byte{1})
			checkBuild(t, a, a, 6, nil, nil)
			a = api.Addr{}
			a.B[at] = byte(v)
			checkArg(t, a, dst, 6, nil, nil)
			checkArg(t, src, a, 6, []int{60}, []byte{1})
			checkArg(t, a, a, 6, nil, []byte{1})
			a.V6 = true
			checkBuild(t, a, dst, 6, nil, nil)
			checkBuild(t, src, a, 6, nil, nil)
		}
	}
	for _, a := range []api.Addr{{}, {B: [16]byte{1, 2, 3, 4}}, {B: [16]byte{1, 2, 3, 4, 5}}, {B: v6(1).B}} {
		checkArg(t, a, dst, 6, nil, nil)
		checkArg(t, src, a, 6, nil, nil)
	}
}

// far: numbers that one byte has no room for; of many the lowest byte would do.
func far() []int {
	return []int{-1, -2, -196, -213, -255, -256, 256, 257, 262, 299, 300, 316, 512, 65_535, 65_536, 65_542, 65_579, 1 << 24, math.MinInt32, math.MaxInt32, math.MaxUint32, 1<<32 + 6, 1<<32 + 43, math.MinInt, math.MinInt + 6, math.MinInt + 60, math.MaxInt, math.MaxInt - 195}
}

func TestBuildProtocols(t *testing.T) {
	src, dst := v6(1), v6(101)
	for _, heads := range [][]int{nil, {0}, {43}, {60, 44}} {
		for _, v := range others() {
			if f, e := Build(src, dst, v, heads, nil); len(f) != 40+8*len(heads) || e != nil {
				t.Errorf("P7.2: Build of protocol %d, heads %v: %v, %v", v, heads, f, e)
			}
			checkBuild(t, src, dst, v, heads, []byte{1})
		}
		for _, v := range append(far(), headKinds()...) {
			checkArg(t, src, dst, v, heads, nil)
			checkArg(t, src, dst, v, heads, make([]byte, 8))
		}
	}
}

// Each list of up to four kinds, each other kind in each place, and numbers beyond them.
func TestBuildHeads(t *testing.T) {
	src, dst := v6(1), v6(101)
	for n := range 5 {
		for _, heads := range lists(n) {
			if slices.Contains(heads[min(n, 1):], 0) {
				checkArg(t, src, dst, 6, heads, nil)
			} else if f, e := Build(src, dst, 6, heads, nil); len(f) != 40+8*n || e != nil {
				t.Errorf("P7.2: Build with heads %v: %v, %v", heads, f, e)
			}
			checkBuild(t, src, dst, 6, heads, []byte{1, 2})
		}
	}
	for n := 1; n <= 8; n++ {
		for place := range n {
			for _, v := range append(others(), far()...) {
				heads := slices.Repeat([]int{44}, n)
				heads[place] = v
				checkArg(t, src, dst, 6, heads, nil)
			}
			heads := slices.Repeat([]int{60}, n)
			heads[place] = 0
			if place > 0 {
				checkArg(t, src, dst, 6, heads, nil)
			}
			checkBuild(t, src, dst, 6, heads, []byte{1})
		}
	}
}

func TestBuildManyHeads(t *testing.T) {
	src, dst := v6(1), v6(101)
	for _, kind := range []int{43, 44, 60} {
		for n := range 30 {
			heads := slices.Repeat([]int{kind}, n)
			if f, e := Build(src, dst, 6, heads, nil); (e == nil) != (n <= 8) || n <= 8 && len(f) != 40+8*n {
				t.Errorf("P7.2: Build with %d heads of %d: %d bytes, %v", n, kind, len(f), e)
			}
			checkBuild(t, src, dst, 6, heads, []byte{1, 2, 3})
			if n > 0 {
				heads[0] = 0
			}
			checkBuild(t, src, dst, 6, heads, nil)
		}
		for _, n := range []int{256, 257, 8_191, 8_192, 65_536, 1_000_000} {
			checkArg(t, src, dst, 6, slices.Repeat([]int{kind}, n), nil)
		}
	}
}

// Behind the first forty all of it counts, the heads too.
func TestBuildSize(t *testing.T) {
	src, dst := v6(1), v6(101)
	for n := range 9 {
		heads := slices.Repeat([]int{60}, n)
		fits := 65_535 - 8*n
		for size := range 300 {
			checkBuild(t, src, dst, 17, heads, make([]byte, size))
		}
		for size := fits - 50; size < fits+100; size++ {
			b := bytes.Repeat([]byte{0x5a}, size)
			if f, e := Build(src, dst, 17, heads, b); (e == nil) != (size <= fits) || size == fits && len(f) != 65_575 {
				t.Errorf("P7.2: Build with %d heads, %d bytes: %d bytes, %v", n, size, len(f), e)
			}
			checkBuild(t, src, dst, 17, heads, b)
		}
		for _, size := range []int{65_536, 65_537, 65_575, 65_576, 131_072, 3_000_000} {
			checkArg(t, src, dst, 17, heads, make([]byte, size))
		}
	}
}

// More than one argument that may not be is the same error.
func TestBuildOfNothingRight(t *testing.T) {
	for i := range 32 {
		src, dst, proto, heads, b := v6(1), v6(101), 6, []int{0, 60}, []byte{1}
		if i&1 > 0 {
			src = api.Addr{}
		}
		if i&2 > 0 {
			dst = api.Addr{B: v6(1).B}
		}
		if i&4 > 0 {
			proto = 256
		}
		if i&8 > 0 {
			heads = []int{60, 0}
		}
		if i&16 > 0 {
			b = make([]byte, 65_536)
		}
		if i > 0 {
			checkArg(t, src, dst, proto, heads, b)
		}
		checkBuild(t, src, dst, proto, heads, b)
	}
}

func TestBuildOfAnything(t *testing.T) {
	seed := uint32(77)
	for range 50_000 {
		m := make([]byte, 120)
		random(&seed, m)
		src, dst := api.Addr{V6: true}, api.Addr{V6: m[119] > 8}
		copy(src.B[:], m)
		copy(dst.B[:], m[16:])
		var heads []int
		for i := range int(m[32]) % 10 {
			heads = append(heads, []int{43, 44, 60, 43, 44, 60, 43, 44, 60, 0}[m[33+i]%10])
		}
		checkBuild(t, src, dst, int(m[50]), heads, m[51:51+int(m[51])%60])
	}
}

// fill writes v into all of b, and into the room behind its end.
func fill[T any](b []T, v T) {
	b = b[:cap(b)]
	for i := range b {
		b[i] = v
	}
}

// Neither heads and bytes nor the room behind their ends are written or kept, and two answers share nothing.
func TestBuildIsNew(t *testing.T) {
	src, dst := v6(1), v6(101)
	for n := range 9 {
		for size := range 12 {
			sevens, sixties := bytes.Repeat([]byte{7}, 200), slices.Repeat([]int{60}, 30)
			room, more := bytes.Clone(sevens), slices.Clone(sixties)
			heads, b := more[10:10+n], room[20:20+size]
			first, _ := Build(src, dst, 6, heads, b)
			second, _ := Build(src, dst, 6, heads, b)
			want := built(src, dst, 6, heads, b)
			if !bytes.Equal(room, sevens) || !slices.Equal(more, sixties) {
				t.Errorf("R3: Build wrote into what it was given: %v, %v", room, more)
			}
			fill(first, 99)
			if !bytes.Equal(second, want) || !bytes.Equal(room, sevens) || !slices.Equal(more, sixties) {
				t.Errorf("R3: who writes into what Build answered changes others: %v, %v, %v", second, room, more)
			}
			fill(room, 55)
			if fill(more, 44); !bytes.Equal(second, want) {
				t.Errorf("R3: Build kept what it was given: %v", second)
			}
		}
	}
}

// What stands behind the end of a packet is not a part of it.
func TestParseRoomBehindTheEnd(t *testing.T) {
	whole := packet([]int{0, 43, 60}, 6, 20, 20)
	before := bytes.Clone(whole)
	for size := range 84 {
		if h, e := Parse(whole[:size]); h != (api.Head{}) || e == nil {
			t.Errorf("P7.1: Parse of the first %d bytes: %+v, %v", size, h, e)
		}
		checkParse(t, whole[:size])
	}
	checkRight(t, whole[:84], told(3, 6, 20))
	if !bytes.Equal(whole, before) {
		t.Errorf("R3: Parse wrote behind the end of what it was given")
	}
}

// Who writes into an error changes no other one.
func TestErrorsAreNew(t *testing.T) {
	for _, r := range []struct {
		b     []byte
		code  api.Errno
		place int
	}{
		{nil, api.ErrShort, 0},
		{make([]byte, 40), api.ErrVersion, 0},
		{first(6, 1), api.ErrLength, 4},
		{packet([]int{60, 0}, 6, 0, 0), api.ErrOrder, 48},
		{packet(slices.Repeat([]int{60}, 9), 6, 0, 0), api.ErrDeep, 104},
		{first(60, 0), api.ErrShort, 40},
		{turned(packet([]int{60}, 6, 0, 0), 41, 1), api.ErrShort, 40},
		{turned(packet([]int{44}, 6, 0, 0), 42, 1), api.ErrFragment, 40},
	} {
		_, held := Parse(r.b)
		_, next := Parse(r.b)
		var f *api.Fault
		if !errors.As(next, &f) {
			t.Fatalf("R4: %v: no place in it", next)
		}
		f.At, f.Err = 77, api.ErrBig
		if !is(held, r.code, r.place) {
			t.Errorf("R3: who writes into one error changes another: %v", held)
		}
		checkError(t, r.b, r.code, r.place)
	}
}

// Whatever was asked ahead, the same answer comes.
func TestAnswersHangOnArgumentsAlone(t *testing.T) {
	for range 3 {
		checkRight(t, packet([]int{0, 44, 60}, 6, 4, 2), told(3, 6, 4))
		checkBuild(t, v6(1), v6(101), 6, []int{0, 43}, []byte{1})
		checkError(t, packet([]int{43, 0}, 6, 0, 0), api.ErrOrder, 48)
		checkArg(t, v6(1), api.Addr{}, 6, nil, nil)
		checkError(t, nil, api.ErrShort, 0)
		checkBuild(t, v6(101), v6(1), 17, nil, nil)
		checkRight(t, packet(nil, 58, 0, 0), told(0, 58, 0))
	}
}
