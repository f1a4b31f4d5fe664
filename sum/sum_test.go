package sum

import (
	"bytes"
	"math"
	"math/big"
	"testing"

	"stockade/api"
)

// expected: what the promise says of b, found by another way: 65,536 is 1 more than 65,535,
// so what goes above and is added below leaves the rest of b, as one great number, by 65,535 as it is.
func expected(b []byte) int {
	whole := bytes.Clone(b)
	if len(whole)%2 == 1 {
		whole = append(whole, 0)
	}
	n := new(big.Int).SetBytes(whole)
	if n.Sign() == 0 {
		return 65_535
	}
	// No addition of numbers that are not all 0 makes 0: a rest of 0 is that of 65,535.
	rest := new(big.Int).Mod(n, big.NewInt(65_535)).Int64()
	if rest == 0 {
		rest = 65_535
	}
	return 65_535 - int(rest)
}

// joined: what the promise says Over is the sum of, written byte by byte.
func joined(src, dst api.Addr, proto int, b []byte) []byte {
	width := 4
	if src.V6 {
		width = 16
	}
	var p []byte
	for _, a := range []api.Addr{src, dst} {
		for i := range width {
			p = append(p, a.B[i])
		}
	}
	n, kind := len(b), byte(proto&255)
	if src.V6 {
		p = append(p, byte(n/16_777_216), byte(n/65_536), byte(n/256), byte(n), 0, 0, 0, kind)
	} else {
		p = append(p, 0, kind, byte(n/256), byte(n))
	}
	return append(p, b...)
}

// mixed: so many bytes that look like no row, in exactly so much room; another seed makes others.
func mixed(n int, seed uint32) []byte {
	b := make([]byte, n)
	for i := range b {
		seed = seed*1_664_525 + 1_013_904_223
		b[i] = byte(seed >> 24)
	}
	return b
}

// full: so many bytes, all of them that one.
func full(n int, v byte) []byte {
	return bytes.Repeat([]byte{v}, n)
}

// four: an address of version 4. six: one of version 6.
func four(b ...byte) (a api.Addr) {
	copy(a.B[:4], b)
	return a
}

func six(b ...byte) (a api.Addr) {
	a.V6 = true
	copy(a.B[:], b)
	return a
}

func checkOf(t *testing.T, b []byte) {
	t.Helper()
	if n, want := Of(b), expected(b); n != want {
		t.Errorf("P3.1: Of of %d bytes (%v ..): %d; want %d", len(b), b[:min(len(b), 8)], n, want)
	}
}

func checkOver(t *testing.T, src, dst api.Addr, proto int, b []byte) {
	t.Helper()
	if n, want := Over(src, dst, proto, b), expected(joined(src, dst, proto, b)); n != want {
		t.Errorf("P3.1: Over from %v to %v by %d of %d bytes: %d; want %d", src, dst, proto, len(b), n, want)
	}
}

func TestExample(t *testing.T) {
	for _, b := range [][]byte{nil, {}, make([]byte, 0, 9)} {
		if n := Of(b); n != 65_535 {
			t.Errorf("P3.1: Of of nothing: %d; want 65535", n)
		}
	}
}

// Sums that were worked out by hand.
func TestOfByHand(t *testing.T) {
	for _, r := range []struct {
		b    []byte
		want int
	}{
		{[]byte{0}, 65_535},
		{[]byte{0, 0}, 65_535},
		{[]byte{1}, 0xfeff},
		{[]byte{255}, 0x00ff},
		{[]byte{0, 1}, 0xfffe},
		{[]byte{1, 0}, 0xfeff},
		{[]byte{1, 2}, 0xfefd},
		{[]byte{1, 2, 3}, 0xfbfd},
		{[]byte{1, 2, 3, 4}, 0xfbf9},
		{[]byte{0, 0, 1}, 0xfeff},
		{[]byte{255, 255}, 0},
		// Just 65,535 stays; one more goes above, and is added below.
		{[]byte{255, 254, 0, 1}, 0},
		{[]byte{255, 255, 0, 1}, 0xfffe},
		{[]byte{0x80, 0, 0x80, 0}, 0xfffe},
		{[]byte{255, 255, 255}, 0x00ff},
		{[]byte{255, 255, 255, 255}, 0},
		// 1ffff: what is added below goes above again.
		{[]byte{255, 255, 255, 255, 0, 1}, 0xfffe},
		{[]byte{255, 255, 255, 254, 0, 2}, 0xfffe},
		{[]byte{255, 255, 255, 255, 1}, 0xfeff},
	} {
		if n := Of(r.b); n != r.want {
			t.Errorf("P3.1: Of of %v: %#x; want %#x", r.b, n, r.want)
		}
		if n := expected(r.b); n != r.want {
			t.Errorf("the tests' own sum of %v: %#x; want %#x", r.b, n, r.want)
		}
	}
}

func TestOneByte(t *testing.T) {
	for v := range 256 {
		if n := Of([]byte{byte(v)}); n != 65_535-256*v {
			t.Errorf("P3.1: Of of %d alone: %d; want %d", v, n, 65_535-256*v)
		}
	}
}

func TestEveryNumberOfTwoBytes(t *testing.T) {
	for v := range 1 << 16 {
		if n := Of([]byte{byte(v >> 8), byte(v)}); n != 65_535-v {
			t.Fatalf("P3.1: Of of the number %d: %d; want %d", v, n, 65_535-v)
		}
	}
}

// One byte that is not 0 counts by whether it is the high one or the low one, wherever it is.
func TestEveryPlaceOfOneByte(t *testing.T) {
	for size := range 40 {
		for at := range size {
			b := make([]byte, size)
			b[at] = 3
			want := 65_535 - 3
			if at%2 == 0 {
				want = 65_535 - 3*256
			}
			if n := Of(b); n != want {
				t.Errorf("P3.1: Of of %d bytes, 3 at %d: %d; want %d", size, at, n, want)
			}
		}
	}
}

// Odd and even numbers of bytes; of great ones the sum goes above 65,535 many times.
func TestEveryLength(t *testing.T) {
	for size := range 300 {
		for seed := range uint32(5) {
			checkOf(t, mixed(size, seed))
		}
		for _, v := range []byte{0, 1, 127, 128, 255} {
			checkOf(t, full(size, v))
		}
	}
	for _, size := range []int{1_999, 2_000, 4_001, 4_002, 65_535, 65_536, 65_537, 131_070, 131_071, 131_072} {
		checkOf(t, mixed(size, 7))
		checkOf(t, full(size, 255))
	}
}

// A total of so many numbers of 65,535, and one more, for each that there may be:
// what it is by itself, what is added below it, and whether that goes above again.
func TestAboveOnceAndAgain(t *testing.T) {
	for _, high := range []int{1, 2, 3, 5, 16, 255, 256, 257} {
		ahead := full(2*high, 255)
		for v := range 1 << 16 {
			want := 65_535 - v
			if v == 0 {
				want = 0
			}
			if n := Of(append(ahead, byte(v>>8), byte(v))); n != want {
				t.Fatalf("P3.1: Of of %d numbers of 65535, and %d: %d; want %d", high, v, n, want)
			}
		}
	}
}

// Totals of more than 32 bits.
func TestGreatTotals(t *testing.T) {
	for _, numbers := range []int{65_536, 65_537, 65_538, 65_539, 70_000, 200_000} {
		b := full(2*numbers, 255)
		for _, tail := range [][]byte{nil, {0, 0}, {0, 1}, {0, 2}, {1}, {255, 254}, {255}} {
			checkOf(t, append(b, tail...))
		}
	}
	checkOf(t, mixed(3_000_001, 11))
}

func TestOverByHand(t *testing.T) {
	src, dst := four(10, 0, 0, 1), four(10, 0, 0, 2)
	wideSrc, wideDst := six(0x20, 0, 0, 1, 0, 2), six(0x30, 1, 0, 0, 0, 0, 0, 0, 0, 0, 0, 0, 0, 0, 4, 5)
	for _, r := range []struct {
		src, dst api.Addr
		proto    int
		b        []byte
		want     int
	}{
		{four(), four(), 0, nil, 0xffff},
		{six(), six(), 0, nil, 0xffff},
		{four(), four(), 17, nil, 0xffff - 17},
		{six(), six(), 17, nil, 0xffff - 17},
		{four(), four(), 0, []byte{0}, 0xfffe},
		{six(), six(), 0, []byte{0}, 0xfffe},
		// 0a00 + 0001 + 0a00 + 0002 + 0006 + 0000.
		{src, dst, api.Tcp, nil, 0xffff - 0x1409},
		// 0a00 + 0001 + 0a00 + 0002 + 0011 + 0003 + 0102 + 0300.
		{src, dst, api.Udp, []byte{1, 2, 3}, 0xffff - 0x1819},
		// 2000 + 0001 + 0002 + 3001 + 0405 + 0004 + 003a + 0102 + 0304.
		{wideSrc, wideDst, api.Icmp6, []byte{1, 2, 3, 4}, 0xffff - 0x584d},
		// ffff + ffff + ffff + ffff + 00ff + 0002 + ffff: 5 numbers of 65,535, and 0101.
		{four(255, 255, 255, 255), four(255, 255, 255, 255), 255, []byte{255, 255}, 0xffff - 0x0101},
	} {
		if n := Over(r.src, r.dst, r.proto, r.b); n != r.want {
			t.Errorf("P3.1: Over from %v to %v by %d of %v: %#x; want %#x", r.src, r.dst, r.proto, r.b, n, r.want)
		}
	}
}

func TestOverOfBothVersions(t *testing.T) {
	for seed := range uint32(20) {
		src, dst := four(mixed(4, seed)...), four(mixed(4, seed+100)...)
		wideSrc, wideDst := six(mixed(16, seed+200)...), six(mixed(16, seed+300)...)
		for size := range 60 {
			b := mixed(size, seed+400)
			for _, proto := range []int{api.Icmp, api.Tcp, api.Udp, api.Icmp6} {
				checkOver(t, src, dst, proto, b)
				checkOver(t, wideSrc, wideDst, proto, b)
			}
		}
	}
}

// Each byte of each address counts, if it is one of those that the version has.
func TestEveryByteOfAnAddress(t *testing.T) {
	for at := range 16 {
		var a api.Addr
		a.B[at] = 9
		weight := 9
		if at%2 == 0 {
			weight = 9 * 256
		}
		want := 65_535
		if at < 4 {
			want -= weight
		}
		if from, to := Over(a, four(), 0, nil), Over(four(), a, 0, nil); from != want || to != want {
			t.Errorf("P3.1: Over of version 4, byte %d of an address: %d, %d; want %d", at, from, to, want)
		}
		a.V6 = true
		if from, to := Over(a, six(), 0, nil), Over(six(), a, 0, nil); from != 65_535-weight || to != 65_535-weight {
			t.Errorf("P3.1: Over of version 6, byte %d of an address: %d, %d; want %d", at, from, to, 65_535-weight)
		}
	}
}

// src alone says how much of both counts, even of addresses that are not right.
func TestVersionIsThatOfSrc(t *testing.T) {
	src, dst := four(mixed(4, 1)...), six(mixed(16, 2)...)
	long := src
	copy(long.B[:], mixed(16, 3))
	for size := range 9 {
		b := mixed(size, 4)
		for _, pair := range [][2]api.Addr{{src, dst}, {dst, src}, {long, dst}, {dst, long}, {long, src}, {src, long}, {long, long}} {
			checkOver(t, pair[0], pair[1], api.Udp, b)
		}
	}
}

// Of the protocol the lowest byte counts alone, below 0 too.
func TestEveryProtocol(t *testing.T) {
	src, dst, b := mixed(16, 5), mixed(16, 6), mixed(11, 7)
	numbers := []int{math.MaxInt, math.MaxInt - 1, math.MinInt, math.MinInt + 1, math.MaxInt32, math.MinInt32, 65_535, 65_536, 65_553, -65_536}
	for proto := -600; proto <= 600; proto++ {
		numbers = append(numbers, proto)
	}
	for _, proto := range numbers {
		checkOver(t, four(src...), four(dst...), proto, b)
		checkOver(t, six(src...), six(dst...), proto, b)
	}
	for _, r := range []struct{ proto, low int }{{256, 0}, {257, 1}, {256 + api.Udp, api.Udp}, {-1, 255}, {-256, 0}, {-250, 6}, {math.MaxInt, 255}, {math.MinInt, 0}} {
		if n, wide := Over(four(), four(), r.proto, nil), Over(six(), six(), r.proto, nil); n != 65_535-r.low || wide != 65_535-r.low {
			t.Errorf("P3.1: Over by %d: %d, %d; want %d", r.proto, n, wide, 65_535-r.low)
		}
	}
}

// Lengths of more than one byte; above 65,535 version 4 has only two of them, and version 6 has all four.
func TestLengths(t *testing.T) {
	src, dst := mixed(16, 8), mixed(16, 9)
	for _, size := range []int{254, 255, 256, 257, 511, 512, 1_999, 2_000, 4_002, 32_767, 32_768, 65_534, 65_535, 65_536, 65_537, 131_071, 131_072, 200_001, 16_777_215, 16_777_216, 16_777_219} {
		b := make([]byte, size)
		b[0], b[size-1] = 1, 2
		checkOver(t, four(src...), four(dst...), api.Udp, b)
		checkOver(t, six(src...), six(dst...), api.Udp, b)
	}
	for _, r := range []struct{ size, short, long int }{
		{255, 255, 255}, {256, 256, 256}, {65_535, 65_535, 65_535}, {65_536, 0, 1}, {65_537, 1, 2}, {131_073, 1, 3}, {16_777_216, 0, 256}, {16_777_219, 3, 259},
	} {
		b := make([]byte, r.size)
		if n, wide := Over(four(), four(), 0, b), Over(six(), six(), 0, b); n != 65_535-r.short || wide != 65_535-r.long {
			t.Errorf("P3.1: Over of %d bytes 0: %d, %d; want %d, %d", r.size, n, wide, 65_535-r.short, 65_535-r.long)
		}
	}
}

// What follows: something with its own sum in place of a number 0 has the sum 0.
func TestSumInItsOwnPlace(t *testing.T) {
	for size := 2; size < 70; size++ {
		for at := 0; at+2 <= size; at += 2 {
			for _, b := range [][]byte{mixed(size, uint32(at)), make([]byte, size), full(size, 255)} {
				checkOwnPlace(t, b, at, Of)
				for _, pair := range [][2]api.Addr{{four(mixed(4, 1)...), four(mixed(4, 2)...)}, {six(mixed(16, 1)...), six(mixed(16, 2)...)}, {four(), four()}, {six(), six()}} {
					checkOwnPlace(t, b, at, func(b []byte) int { return Over(pair[0], pair[1], api.Tcp, b) })
				}
			}
		}
	}
}

func checkOwnPlace(t *testing.T, b []byte, at int, of func(b []byte) int) {
	t.Helper()
	b[at], b[at+1] = 0, 0
	n := of(b)
	b[at], b[at+1] = byte(n>>8), byte(n)
	if again := of(b); again != 0 {
		t.Errorf("P3.1: %d bytes with their sum %#x at %d have the sum %#x; want 0", len(b), n, at, again)
	}
	// Any other number there is told from it, but 0 from 65,535, which are the same to a sum.
	b[at+1] ^= 1
	if again := of(b); again == 0 {
		t.Errorf("P3.1: %d bytes with another number than their sum %#x at %d have the sum 0", len(b), n, at)
	}
}

// The room behind the end of what is handed in is not a part of it, and nothing of it is written.
func TestWhatIsHandedInIsUnchanged(t *testing.T) {
	src, dst := six(mixed(16, 1)...), six(mixed(16, 2)...)
	for room := range 50 {
		for size := range 6 {
			whole := full(size+room, 0xa5)
			b := whole[:size]
			checkOf(t, b)
			checkOver(t, src, dst, api.Tcp, b)
			checkOver(t, four(1, 2, 3, 4), four(5, 6, 7, 8), api.Tcp, b)
			if !bytes.Equal(whole, full(size+room, 0xa5)) {
				t.Errorf("R3: %d bytes, or the room for %d behind them, were changed: %v", size, room, whole)
			}
		}
	}
	if src != six(mixed(16, 1)...) || dst != six(mixed(16, 2)...) {
		t.Errorf("R3: addresses that were handed in were changed: %v, %v", src, dst)
	}
}

// Whatever was asked ahead, the same answer comes; and what was handed in is not kept.
func TestAnswersHangOnArgumentsAlone(t *testing.T) {
	b := mixed(33, 3)
	for range 3 {
		for size := range 34 {
			checkOf(t, b[:size])
			checkOver(t, six(b...), six(b[7:]...), size, b[size:])
			checkOver(t, four(b...), four(b[7:]...), size, b[size:])
		}
		b[4]++
		b[21]--
	}
}
