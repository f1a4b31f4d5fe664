package ip4

import (
	"bytes"
	"errors"
	"math"
	"slices"
	"testing"

	"stockade/api"
	"stockade/fault"
)

// noPlace: of an error that says none.
const noPlace = -1

// is tells whether e is an error of that number at that place; of 0 whether there is none.
func is(e error, code api.Errno, at int) bool {
	if code == 0 {
		return e == nil
	}
	place, placed := fault.Place(e)
	if !placed {
		place = noPlace
	}
	return errors.Is(e, code) && fault.Code(e) == code && place == at
}

// total: all numbers of two bytes in b, of which the last may be half there.
func total(b []byte) (n int) {
	for i, v := range b {
		if i%2 == 0 {
			n += 256 * int(v)
		} else {
			n += int(v)
		}
	}
	return n
}

// expected: what the promise says of Parse(b), sentence by sentence.
// A sum is 0 just where all numbers together are a multiple of 65,535, and not 0.
func expected(b []byte) (h api.Head, code api.Errno, place int) {
	if len(b) < 20 {
		return h, api.ErrShort, 0
	}
	if b[0]/16 != 4 {
		return h, api.ErrVersion, 0
	}
	from := 4 * int(b[0]%16)
	if from < 20 || from > len(b) {
		return h, api.ErrLength, 0
	}
	to := 256*int(b[2]) + int(b[3])
	if to < from || to > len(b) {
		return h, api.ErrLength, 2
	}
	if total(b[:from]) == 0 || total(b[:from])%65_535 != 0 {
		return h, api.ErrSum, 10
	}
	// Of a byte's eight bits the third from above is the 8,192 of both, the five below belong to the lowest 13.
	if b[6]%64 != 0 || b[7] != 0 {
		return h, api.ErrFragment, 6
	}
	copy(h.Src.B[:], b[12:16])
	copy(h.Dst.B[:], b[16:20])
	h.Proto, h.From, h.To = int(b[9]), from, to
	return h, 0, 0
}

// checkParse holds Parse of b against the promise.
func checkParse(t *testing.T, b []byte) {
	t.Helper()
	before := bytes.Clone(b)
	want, code, place := expected(b)
	h, e := Parse(b)
	if h != want || !is(e, code, place) {
		t.Errorf("P6.1: Parse of %d bytes (%v ..): %+v, %v; want %+v, %d at %d", len(b), b[:min(len(b), 60)], h, e, want, code, place)
	}
	if !bytes.Equal(b, before) {
		t.Errorf("R3: Parse changed the %d bytes that were handed in", len(b))
	}
}

// checkError: Parse of b is just that error.
func checkError(t *testing.T, b []byte, code api.Errno, place int) {
	t.Helper()
	if h, e := Parse(b); h != (api.Head{}) || !is(e, code, place) {
		t.Errorf("P6.1: Parse of %d bytes (%v ..): %+v, %v; want %d at %d", len(b), b[:min(len(b), 60)], h, e, code, place)
	}
	checkParse(t, b)
}

// checkRight: Parse of b is that head.
func checkRight(t *testing.T, b []byte, want api.Head) {
	t.Helper()
	if h, e := Parse(b); h != want || e != nil {
		t.Errorf("P6.1: Parse of %d bytes (%v ..): %+v, %v; want %+v", len(b), b[:min(len(b), 60)], h, e, want)
	}
	checkParse(t, b)
}

// summed: b with the sum of its first n bytes put right. (It is 0, not 65,535, where the others together are a multiple of 65,535.)
func summed(b []byte, n int) []byte {
	b = bytes.Clone(b)
	b[10], b[11] = 0, 0
	v := 65_534 - (total(b[:n])-1)%65_535
	b[10], b[11] = byte(v/256), byte(v%256)
	return b
}

// put: b with that number at a place, and its sum put right.
func put(b []byte, at, v int) []byte {
	b = bytes.Clone(b)
	b[at], b[at+1] = byte(v/256), byte(v%256)
	return summed(b, max(4*int(b[0]%16), 12))
}

// packet: with a head of so many fours, and so many bytes that it bears; then so many behind it.
func packet(fours, bears, behind int) []byte {
	b := []byte{byte(64 + fours), 3, 0, 0, 77, 88, 0, 0, 5, 17, 0, 0, 10, 20, 30, 40, 50, 60, 70, 80}
	for i := range 4*fours - 20 {
		b = append(b, byte(200+i))
	}
	all := len(b) + bears
	b[2], b[3] = byte(all/256), byte(all%256)
	b = summed(b, len(b))
	for i := range bears + behind {
		b = append(b, byte(7*i+1))
	}
	return b
}

// told: the head that a packet has.
func told(fours, bears int) api.Head {
	return api.Head{
		Src:   api.Addr{B: [16]byte{10, 20, 30, 40}},
		Dst:   api.Addr{B: [16]byte{50, 60, 70, 80}},
		Proto: 17,
		From:  4 * fours,
		To:    4*fours + bears,
	}
}

func TestExample(t *testing.T) {
	for _, b := range [][]byte{nil, {}, make([]byte, 0, 50), packet(5, 0, 0)[:0]} {
		checkError(t, b, api.ErrShort, 0)
	}
}

// Packets, and the sum of each, that were worked out by hand, so that the tests' own answers are held against something, too.
func TestParseByHand(t *testing.T) {
	one := []byte{0x45, 0, 0, 0x54, 0, 0, 0x40, 0, 0x40, 1, 0xb8, 0x57, 192, 168, 0, 1, 192, 168, 1, 0}
	head := api.Head{Src: api.Addr{B: [16]byte{192, 168, 0, 1}}, Dst: api.Addr{B: [16]byte{192, 168, 1}}, Proto: 1, From: 20, To: 84}
	checkRight(t, append(one, make([]byte, 64)...), head)
	checkRight(t, append(one, bytes.Repeat([]byte{255}, 65)...), head)
	checkError(t, append(one, make([]byte, 63)...), api.ErrLength, 2)

	two := []byte{0x46, 255, 0, 25, 1, 2, 0x80, 0, 0, 255, 0x92, 0xcd, 1, 2, 3, 4, 5, 6, 7, 8, 0x94, 4, 0, 0, 9}
	checkRight(t, two, api.Head{Src: api.Addr{B: [16]byte{1, 2, 3, 4}}, Dst: api.Addr{B: [16]byte{5, 6, 7, 8}}, Proto: 255, From: 24, To: 25})
	two[11]++
	checkError(t, two, api.ErrSum, 10)

	three := []byte{0x45, 0, 0, 0x73, 0, 0, 0x40, 0, 0x40, 0x11, 0xb8, 0x61, 0xc0, 0xa8, 0, 1, 0xc0, 0xa8, 0, 0xc7}
	checkRight(t, append(three, make([]byte, 95)...), api.Head{Src: api.Addr{B: [16]byte{192, 168, 0, 1}}, Dst: api.Addr{B: [16]byte{192, 168, 0, 199}}, Proto: 17, From: 20, To: 115})
}

func TestParseRight(t *testing.T) {
	for fours := 5; fours <= 15; fours++ {
		for bears := range 70 {
			for behind := range 5 {
				checkRight(t, packet(fours, bears, behind), told(fours, bears))
			}
		}
		checkRight(t, packet(fours, 65_535-4*fours, 0), told(fours, 65_535-4*fours))
		checkRight(t, packet(fours, 65_535-4*fours, 10), told(fours, 65_535-4*fours))
		checkRight(t, packet(fours, 5, 200_000), told(fours, 5))
	}
}

// Too few bytes are the first thing that is wrong, whatever is in them, and whatever stands behind their end.
func TestParseShort(t *testing.T) {
	for first := range 256 {
		b := summed(append([]byte{byte(first)}, packet(5, 9, 0)[1:]...), 20)
		for size := range 20 {
			checkError(t, b[:size], api.ErrShort, 0)
			checkError(t, bytes.Clone(b[:size]), api.ErrShort, 0)
			checkError(t, bytes.Repeat([]byte{byte(first)}, size), api.ErrShort, 0)
		}
	}
	checkError(t, packet(5, 0, 0)[:19], api.ErrShort, 0)
	checkRight(t, packet(5, 0, 0)[:20], told(5, 0))
	checkError(t, put(packet(5, 1, 0), 2, 20)[:19], api.ErrShort, 0)
	checkRight(t, put(packet(5, 1, 0), 2, 20)[:20], told(5, 0))
}

func TestParseVersion(t *testing.T) {
	for version := range 16 {
		for fours := range 16 {
			b := packet(15, 9, 9)
			b[0] = byte(16*version + fours)
			if version != 4 {
				checkError(t, summed(b, 60), api.ErrVersion, 0)
				checkError(t, summed(b, max(4*fours, 12)), api.ErrVersion, 0)
				checkError(t, b[:20], api.ErrVersion, 0)
			}
		}
	}
}

// A head of each length, cut at each place: with just the bytes for it, with one too few, and with more.
func TestParseHead(t *testing.T) {
	for fours := range 16 {
		b := packet(15, 9, 9)
		b[0] = byte(64 + fours)
		for size := 20; size <= len(b); size++ {
			b := put(b, 2, size)[:size]
			if fours < 5 || 4*fours > size {
				checkError(t, b, api.ErrLength, 0)
				checkError(t, bytes.Clone(b), api.ErrLength, 0)
				continue
			}
			if h, e := Parse(b); h.From != 4*fours || h.To != size || e != nil {
				t.Errorf("P6.1: Parse of a head of %d fours in %d bytes: %+v, %v", fours, size, h, e)
			}
			checkParse(t, b)
		}
	}
}

// Each first byte, with each size of all.
func TestParseFirstByteAndSize(t *testing.T) {
	for first := range 256 {
		for size := range 80 {
			b := bytes.Repeat([]byte{0, byte(size)}, 40)
			b[0] = byte(first)
			checkParse(t, b[:size])
			checkParse(t, summed(b, max(first%16*4, 12))[:size])
		}
	}
}

// Each number of all bytes, in packets with more and fewer of them.
func TestParseEverySize(t *testing.T) {
	for _, l := range [][]byte{packet(5, 0, 0), packet(5, 40, 0), packet(5, 3, 9), packet(15, 300, 700), packet(6, 65_511, 0), packet(7, 65_507, 30)} {
		from := 4 * int(l[0]%16)
		for size := range 1 << 16 {
			b := put(l[:min(len(l), 2_000)], 2, size)
			checkParse(t, b)
		}
		for _, size := range []int{0, 1, 19, 20, from - 1, from, from + 1, len(l) - 1, len(l), len(l) + 1, 65_534, 65_535} {
			if size > 65_535 {
				continue
			}
			b := put(l, 2, size)
			if size < from || size > len(l) {
				checkError(t, b, api.ErrLength, 2)
				continue
			}
			if h, e := Parse(b); h.From != from || h.To != size || e != nil {
				t.Errorf("P6.1: Parse of %d bytes that tell %d: %+v, %v", len(b), size, h, e)
			}
			checkParse(t, b)
		}
	}
}

// One bit of the head turned makes it wrong: each is summed, and two numbers that differ in one bit are not alike.
func TestParseEveryBitTurned(t *testing.T) {
	for fours := 5; fours <= 15; fours++ {
		whole := packet(fours, 30, 20)
		for at := range 4 * fours {
			for bit := range 8 {
				b := bytes.Clone(whole)
				b[at] ^= 1 << bit
				if h, e := Parse(b); e == nil || h != (api.Head{}) {
					t.Errorf("P6.1: Parse of a head with a bit turned at %d: %+v, %v", at, h, e)
				}
				if at > 3 {
					checkError(t, b, api.ErrSum, 10)
				}
				checkParse(t, b)
			}
		}
	}
}

// What is behind the head has no part in the sum.
func TestParseSumsTheHeadAlone(t *testing.T) {
	whole := packet(6, 30, 20)
	for at := 24; at < len(whole); at++ {
		for v := range 256 {
			b := bytes.Clone(whole)
			b[at] = byte(v)
			checkRight(t, b, told(6, 30))
		}
	}
	b := append(bytes.Clone(whole[:24]), bytes.Repeat([]byte{255}, 50)...)
	b[11]--
	checkError(t, b, api.ErrSum, 10)
	checkError(t, summed(whole, len(whole)), api.ErrSum, 10)
	checkError(t, summed(whole, 20), api.ErrSum, 10)
}

// Each number as the sum: just one is right; but where all others together have the sum 0, 0 and 65,535 are.
func TestParseEverySum(t *testing.T) {
	even := packet(5, 0, 0)
	copy(even[4:], []byte{0, 0})
	copy(even[10:], []byte{0, 0})
	rest := 65_535 - total(even)%65_535
	even[4], even[5] = byte(rest/256), byte(rest%256)
	plain := packet(7, 3, 0)
	for _, r := range []struct {
		b     []byte
		right []int
	}{{plain, []int{256*int(plain[10]) + int(plain[11])}}, {even, []int{0, 65_535}}} {
		for v := range 1 << 16 {
			b := bytes.Clone(r.b)
			b[10], b[11] = byte(v/256), byte(v%256)
			if !slices.Contains(r.right, v) {
				checkError(t, b, api.ErrSum, 10)
			} else if h, e := Parse(b); h.To != len(b) || e != nil {
				t.Errorf("P6.1: Parse with the sum %d: %+v, %v", v, h, e)
			}
			checkParse(t, b)
		}
	}
}

// The bit 8,192, and each of the lowest 13, make a part; the two above do not.
func TestParseEveryPart(t *testing.T) {
	for _, fours := range []int{5, 15} {
		for v := range 1 << 16 {
			b := put(packet(fours, 4, 2), 6, v)
			if v%16_384 == 0 {
				checkRight(t, b, told(fours, 4))
			} else {
				checkError(t, b, api.ErrFragment, 6)
			}
		}
		for bit := range 16 {
			b := put(packet(fours, 4, 2), 6, 1<<bit)
			if _, e := Parse(b); (e == nil) != (bit == 14 || bit == 15) {
				t.Errorf("P6.1: Parse with the bit %d at 6: %v", 1<<bit, e)
			}
		}
	}
}

// What is not spoken of may be anything: the byte 1, the number at 4, the byte 8, the options.
func TestParsePassesOver(t *testing.T) {
	for v := range 1 << 16 {
		checkRight(t, put(packet(6, 4, 2), 4, v), told(6, 4))
		checkRight(t, put(packet(6, 4, 2), 22, v), told(6, 4))
	}
	for v := range 256 {
		for _, at := range []int{1, 8, 20, 21, 22, 23} {
			b := packet(6, 4, 2)
			b[at] = byte(v)
			checkRight(t, summed(b, 24), told(6, 4))
		}
	}
}

// Each byte that is told, and no other place.
func TestParseTells(t *testing.T) {
	for v := range 256 {
		b, want := packet(6, 4, 2), told(6, 4)
		b[9], want.Proto = byte(v), v
		checkRight(t, summed(b, 24), want)
		for i := range 4 {
			b, want := packet(6, 4, 2), told(6, 4)
			b[12+i], want.Src.B[i] = byte(v), byte(v)
			checkRight(t, summed(b, 24), want)
			b, want = packet(6, 4, 2), told(6, 4)
			b[16+i], want.Dst.B[i] = byte(v), byte(v)
			checkRight(t, summed(b, 24), want)
		}
	}
}

// Of more than one thing that is wrong the one that is named first is told.
func TestParseOrder(t *testing.T) {
	b := put(packet(6, 4, 2), 6, 0x2001)
	checkError(t, b, api.ErrFragment, 6)
	b[11] ^= 1
	checkError(t, b, api.ErrSum, 10)
	b[2], b[3] = 0, 31
	checkError(t, b, api.ErrLength, 2)
	b[3] = 23
	checkError(t, b, api.ErrLength, 2)
	for _, fours := range []byte{4, 8, 15} {
		b[0] = 64 + fours
		checkError(t, b, api.ErrLength, 0)
	}
	b[0] = 0x54
	checkError(t, b, api.ErrVersion, 0)
	checkError(t, b[:19], api.ErrShort, 0)
}

// random: bytes that look like no row.
func random(seed *uint32, b []byte) {
	for i := range b {
		*seed = *seed*1_664_525 + 1_013_904_223
		b[i] = byte(*seed >> 24)
	}
}

func TestParseOfAnything(t *testing.T) {
	seed := uint32(6)
	for range 100_000 {
		b := make([]byte, 100)
		random(&seed, b)
		size := int(b[99]) % 100
		checkParse(t, b[:size])
		b[0] = 64 + b[0]%16
		checkParse(t, b[:size])
		b[2], b[3] = 0, b[3]%100
		checkParse(t, b[:size])
		b = summed(b, max(4*int(b[0]%16), 12))
		checkParse(t, b[:size])
		b[6], b[7] = b[6]&0xc0, 0
		checkParse(t, summed(b, max(4*int(b[0]%16), 12))[:size])
	}
}

// built: what the promise says of Build, byte by byte; nil, if an argument may not be.
func built(src, dst api.Addr, proto int, options, b []byte) []byte {
	for _, a := range []api.Addr{src, dst} {
		if a.V6 || a.B != ([16]byte{a.B[0], a.B[1], a.B[2], a.B[3]}) {
			return nil
		}
	}
	all := 20 + len(options) + len(b)
	if proto < 0 || proto > 255 || len(options) > 40 || len(options)%4 != 0 || all > 65_535 {
		return nil
	}
	f := []byte{byte(69 + len(options)/4), 0, byte(all / 256), byte(all % 256), 0, 0, 0, 0, 64, byte(proto), 0, 0}
	for _, a := range []api.Addr{src, dst} {
		f = append(f, a.B[0], a.B[1], a.B[2], a.B[3])
	}
	f = append(f, options...)
	return append(summed(f, len(f)), b...)
}

// checkBuild: Build answers what the promise says, leaves what it is given, and what it built is parsed.
func checkBuild(t *testing.T, src, dst api.Addr, proto int, options, b []byte) {
	t.Helper()
	optionsBefore, bytesBefore := bytes.Clone(options), bytes.Clone(b)
	want := built(src, dst, proto, options, b)
	f, e := Build(src, dst, proto, options, b)
	if want == nil && (!is(e, api.ErrArg, noPlace) || len(f) != 0) || want != nil && e != nil || !bytes.Equal(f, want) {
		t.Errorf("P6.1: Build from %v to %v, protocol %d, %d bytes of options, %d bytes: %d bytes (%v ..), %v; want %d bytes (%v ..)", src, dst, proto, len(options), len(b), len(f), f[:min(len(f), 60)], e, len(want), want[:min(len(want), 60)])
	}
	if !bytes.Equal(options, optionsBefore) || !bytes.Equal(b, bytesBefore) {
		t.Errorf("R3: Build changed the options or the %d bytes that were handed in", len(b))
	}
	if want == nil {
		return
	}
	h, e := Parse(f)
	if h != (api.Head{Src: src, Dst: dst, Proto: proto, From: 20 + len(options), To: len(f)}) || e != nil || !bytes.Equal(f[h.From:h.To], b) {
		t.Errorf("P6.1: what was built from %v to %v, protocol %d, %d bytes of options, %d bytes is parsed as %+v, %v", src, dst, proto, len(options), len(b), h, e)
	}
}

// checkArg: Build answers just that an argument may not be.
func checkArg(t *testing.T, src, dst api.Addr, proto int, options, b []byte) {
	t.Helper()
	if f, e := Build(src, dst, proto, options, b); len(f) != 0 || !is(e, api.ErrArg, noPlace) {
		t.Errorf("P6.1: Build from %v to %v, protocol %d, %d bytes of options, %d bytes: %d bytes, %v; want %d", src, dst, proto, len(options), len(b), len(f), e, api.ErrArg)
	}
	checkBuild(t, src, dst, proto, options, b)
}

// v4: an address of version 4.
func v4(a, b, c, d byte) api.Addr {
	return api.Addr{B: [16]byte{a, b, c, d}}
}

func TestBuildByHand(t *testing.T) {
	src, dst := v4(192, 168, 0, 1), v4(192, 168, 1, 0)
	for _, r := range []struct {
		src, dst         api.Addr
		proto            int
		options, b, want []byte
	}{
		{src, dst, 1, nil, nil, []byte{69, 0, 0, 20, 0, 0, 0, 0, 64, 1, 0xf8, 0x97, 192, 168, 0, 1, 192, 168, 1, 0}},
		{src, dst, 1, []byte{}, []byte{5}, []byte{69, 0, 0, 21, 0, 0, 0, 0, 64, 1, 0xf8, 0x96, 192, 168, 0, 1, 192, 168, 1, 0, 5}},
		{src, dst, 17, []byte{1, 2, 3, 4}, []byte{9, 8, 7}, []byte{70, 0, 0, 27, 0, 0, 0, 0, 64, 17, 0xf3, 0x7a, 192, 168, 0, 1, 192, 168, 1, 0, 1, 2, 3, 4, 9, 8, 7}},
		{api.Addr{}, api.Addr{}, 0, nil, nil, []byte{69, 0, 0, 20, 0, 0, 0, 0, 64, 0, 0x7a, 0xeb, 0, 0, 0, 0, 0, 0, 0, 0}},
		{v4(255, 255, 255, 255), v4(255, 255, 255, 255), 255, nil, nil, []byte{69, 0, 0, 20, 0, 0, 0, 0, 64, 255, 0x79, 0xec, 255, 255, 255, 255, 255, 255, 255, 255}},
	} {
		if f, e := Build(r.src, r.dst, r.proto, r.options, r.b); e != nil || !bytes.Equal(f, r.want) {
			t.Errorf("P6.1: Build from %v to %v, protocol %d, %v, %v: %v, %v; want %v", r.src, r.dst, r.proto, r.options, r.b, f, e, r.want)
		}
		checkBuild(t, r.src, r.dst, r.proto, r.options, r.b)
	}
}

// Each byte of an address, in each of its sixteen places: behind the first four only 0 may be.
func TestBuildAddresses(t *testing.T) {
	src, dst := v4(10, 20, 30, 40), v4(50, 60, 70, 80)
	for at := range 16 {
		for v := range 256 {
			a := v4(1, 2, 3, 4)
			a.B[at] = byte(v)
			if at >= 4 && v > 0 {
				checkArg(t, a, dst, 6, nil, nil)
				checkArg(t, src, a, 6, nil, []byte{1})
				checkArg(t, a, a, 6, []byte{1, 2, 3, 4}, nil)
			}
			checkBuild(t, a, dst, 6, nil, nil)
			checkBuild(t, src, a, 6, nil, []byte{1})
			a.V6 = true
			checkArg(t, a, dst, 6, nil, nil)
			checkArg(t, src, a, 6, nil, []byte{1})
			checkArg(t, a, a, 6, nil, nil)
		}
	}
	for _, a := range []api.Addr{{V6: true}, {V6: true, B: [16]byte{1, 2, 3, 4}}, {V6: true, B: [16]byte{15: 1}}} {
		checkArg(t, a, dst, 6, nil, nil)
		checkArg(t, src, a, 6, nil, nil)
	}
}

func TestBuildProtocols(t *testing.T) {
	src, dst := v4(1, 2, 3, 4), v4(5, 6, 7, 8)
	for v := range 256 {
		if f, e := Build(src, dst, v, nil, nil); len(f) != 20 || e != nil {
			t.Errorf("P6.1: Build of protocol %d: %v, %v", v, f, e)
		}
		checkBuild(t, src, dst, v, nil, []byte{1})
	}
	for _, v := range []int{-1, -2, -255, -256, 256, 257, 512, 65_535, 65_536, 65_542, 1 << 24, math.MinInt32, math.MaxInt32, math.MaxUint32, 1<<32 + 6, math.MinInt, math.MinInt + 6, math.MaxInt, math.MaxInt - 5} {
		checkArg(t, src, dst, v, nil, nil)
		checkArg(t, src, dst, v, []byte{1, 2, 3, 4}, []byte{1})
	}
}

// Options of each length: whole fours, at most ten of them.
func TestBuildOptions(t *testing.T) {
	src, dst := v4(1, 2, 3, 4), v4(5, 6, 7, 8)
	for n := range 300 {
		options := make([]byte, n)
		for i := range options {
			options[i] = byte(251 - i)
		}
		for _, size := range []int{0, 1, 2, 3, 20, 65_000} {
			b := bytes.Repeat([]byte{7}, size)
			if n > 40 || n%4 > 0 {
				checkArg(t, src, dst, 6, options, b)
				continue
			}
			f, e := Build(src, dst, 6, options, b)
			if e != nil || len(f) != 20+n+size || f[0] != byte(69+n/4) || !bytes.Equal(f[20:20+n], options) {
				t.Errorf("P6.1: Build with %d bytes of options: %d bytes, %v", n, len(f), e)
			}
			checkBuild(t, src, dst, 6, options, b)
		}
	}
	for _, n := range []int{1_020, 1_024, 65_536, 65_540, 1_000_000} {
		checkArg(t, src, dst, 6, make([]byte, n), nil)
	}
}

// All of it counts, the options too.
func TestBuildSize(t *testing.T) {
	src, dst := v4(1, 2, 3, 4), v4(5, 6, 7, 8)
	for n := 0; n <= 40; n += 4 {
		fits := 65_535 - 20 - n
		for size := range 600 {
			checkBuild(t, src, dst, 17, make([]byte, n), make([]byte, size))
		}
		for size := fits - 20; size < fits+80; size++ {
			b := bytes.Repeat([]byte{0x5a}, size)
			if f, e := Build(src, dst, 17, make([]byte, n), b); (e == nil) != (size <= fits) || size == fits && len(f) != 65_535 {
				t.Errorf("P6.1: Build of %d bytes of options, %d bytes: %d bytes, %v", n, size, len(f), e)
			}
			checkBuild(t, src, dst, 17, make([]byte, n), b)
		}
		for _, size := range []int{65_535, 65_536, 65_537, 131_072, 131_092, 3_000_000} {
			checkArg(t, src, dst, 17, make([]byte, n), make([]byte, size))
		}
	}
}

// More than one argument that may not be is the same error.
func TestBuildOfNothingRight(t *testing.T) {
	odd, right := api.Addr{B: [16]byte{15: 1}}, v4(1, 2, 3, 4)
	for i := range 32 {
		src, dst, proto, options, b := right, right, 6, []byte(nil), []byte{1}
		if i&1 > 0 {
			src = odd
		}
		if i&2 > 0 {
			dst = api.Addr{V6: true}
		}
		if i&4 > 0 {
			proto = 256
		}
		if i&8 > 0 {
			options = make([]byte, 44)
		}
		if i&16 > 0 {
			b = make([]byte, 65_536)
		}
		if i > 0 {
			checkArg(t, src, dst, proto, options, b)
		}
		checkBuild(t, src, dst, proto, options, b)
	}
}

// Whatever is in them, what is built has the sum 0; so it has where the sum is at one end.
func TestBuildOfAnything(t *testing.T) {
	seed := uint32(66)
	for i := range 50_000 {
		m := make([]byte, 120)
		random(&seed, m)
		src, dst := v4(m[0], m[1], m[2], m[3]), v4(m[4], m[5], m[6], m[7])
		checkBuild(t, src, dst, i%256, m[8:8+i%11*4], m[60:60+i%60])
	}
	for v := range 1 << 16 {
		checkBuild(t, v4(byte(v/256), byte(v%256), 0, 0), api.Addr{}, 6, nil, nil)
	}
}

// fill writes v into all of b, and into the room behind its end.
func fill(b []byte, v byte) {
	b = b[:cap(b)]
	for i := range b {
		b[i] = v
	}
}

// Neither options and bytes nor the room behind their ends are written or kept, and two answers share nothing.
func TestBuildIsNew(t *testing.T) {
	src, dst := v4(1, 2, 3, 4), v4(5, 6, 7, 8)
	for n := 0; n <= 40; n += 4 {
		for size := range 12 {
			sevens := bytes.Repeat([]byte{7}, 200)
			room, more := bytes.Clone(sevens), bytes.Clone(sevens)
			options, b := more[20:20+n], room[20:20+size]
			first, _ := Build(src, dst, 6, options, b)
			second, _ := Build(src, dst, 6, options, b)
			want := built(src, dst, 6, options, b)
			if !bytes.Equal(room, sevens) || !bytes.Equal(more, sevens) {
				t.Errorf("R3: Build wrote into what it was given: %v, %v", room, more)
			}
			fill(first, 99)
			if !bytes.Equal(second, want) || !bytes.Equal(room, sevens) || !bytes.Equal(more, sevens) {
				t.Errorf("R3: who writes into what Build answered changes others: %v, %v, %v", second, room, more)
			}
			fill(room, 55)
			if fill(more, 66); !bytes.Equal(second, want) {
				t.Errorf("R3: Build kept what it was given: %v", second)
			}
		}
	}
}

// Options and bytes may lie in the same memory.
func TestBuildOfOneMemory(t *testing.T) {
	m := make([]byte, 100)
	random(new(uint32), m)
	before := bytes.Clone(m)
	for n := 0; n <= 40; n += 4 {
		for from := range 50 {
			checkBuild(t, v4(1, 2, 3, 4), v4(5, 6, 7, 8), 6, m[:n], m[from:])
		}
	}
	if !bytes.Equal(m, before) {
		t.Errorf("R3: Build wrote into what it was given: %v", m)
	}
}

// What stands behind the end of a packet is not a part of it.
func TestParseRoomBehindTheEnd(t *testing.T) {
	whole := packet(6, 20, 20)
	before := bytes.Clone(whole)
	for size := range 44 {
		if h, e := Parse(whole[:size]); h != (api.Head{}) || e == nil {
			t.Errorf("P6.1: Parse of the first %d bytes: %+v, %v", size, h, e)
		}
		checkParse(t, whole[:size])
	}
	checkRight(t, whole[:44], told(6, 20))
	if !bytes.Equal(whole, before) {
		t.Errorf("R3: Parse wrote behind the end of what it was given")
	}
}

// Who writes into an error changes no other one.
func TestErrorsAreNew(t *testing.T) {
	part, wrong := put(packet(5, 0, 0), 6, 1), packet(5, 0, 0)
	wrong[19]++
	for _, r := range []struct {
		b     []byte
		code  api.Errno
		place int
	}{{nil, api.ErrShort, 0}, {make([]byte, 20), api.ErrVersion, 0}, {put(packet(5, 0, 0), 0, 0x4400), api.ErrLength, 0}, {put(packet(5, 0, 0), 0, 0x4600), api.ErrLength, 0}, {put(packet(5, 0, 0), 2, 21), api.ErrLength, 2}, {wrong, api.ErrSum, 10}, {part, api.ErrFragment, 6}} {
		_, held := Parse(r.b)
		_, next := Parse(r.b)
		var f *api.Fault
		if !errors.As(next, &f) {
			t.Fatalf("R4: %v: no place in it", next)
		}
		f.At, f.Err = 77, api.ErrBig
		if !is(held, r.code, r.place) {
			t.Errorf("R3: who writes into one error changes another: %v", held)
		}
		checkError(t, r.b, r.code, r.place)
	}
}

// Whatever was asked ahead, the same answer comes.
func TestAnswersHangOnArgumentsAlone(t *testing.T) {
	src, dst := v4(1, 2, 3, 4), v4(5, 6, 7, 8)
	for range 3 {
		checkRight(t, packet(7, 4, 2), told(7, 4))
		checkBuild(t, src, dst, 6, []byte{1, 2, 3, 4}, []byte{1})
		checkError(t, put(packet(7, 4, 2), 6, 8_192), api.ErrFragment, 6)
		checkArg(t, src, api.Addr{V6: true}, 6, nil, nil)
		checkError(t, nil, api.ErrShort, 0)
		checkBuild(t, dst, src, 17, nil, nil)
		checkRight(t, packet(5, 0, 0), told(5, 0))
	}
}
