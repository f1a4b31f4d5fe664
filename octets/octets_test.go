package octets

import (
	"bytes"
	"errors"
	"math"
	"testing"

	"stockade/api"
	"stockade/fault"
)

// noPlace: of an error that says none.
const noPlace = -1

// wrong tells what of e is not an error of that number at that place; "", if all is well.
func wrong(e error, code api.Errno, at int) string {
	if code == 0 {
		if e != nil {
			return "an error where there is none"
		}
		return ""
	}
	var n api.Errno
	if !errors.As(e, &n) || n != code || !errors.Is(e, code) || fault.Code(e) != code {
		return "another number"
	}
	var f *api.Fault
	if found := errors.As(e, &f); found != (at != noPlace) {
		return "a place where there is none, or none where there is one"
	}
	if f != nil && f.At != at {
		return "another place"
	}
	return ""
}

// expected: what the promise says of n bytes from at on, found byte by byte.
func expected(b []byte, at, n int) (part []byte, code api.Errno, place int) {
	if at < 0 || n < 0 {
		return nil, api.ErrArg, noPlace
	}
	for i := range n {
		if at+i >= len(b) {
			return nil, api.ErrShort, at
		}
		part = append(part, b[at+i])
	}
	return part, 0, noPlace
}

// sum: the number of bytes, the highest one first.
func sum(p []byte) uint64 {
	v, weight := uint64(0), uint64(1)
	for i := len(p) - 1; i >= 0; i-- {
		v += weight * uint64(p[i])
		weight *= 256
	}
	return v
}

// counted: so many bytes, no two neighbours of which are the same, in exactly so much room.
func counted(n int) []byte {
	b := make([]byte, n)
	for i := range b {
		b[i] = byte(0x81 + 7*i)
	}
	return b
}

func check16(t *testing.T, b []byte, at int) {
	t.Helper()
	p, code, place := expected(b, at, 2)
	v, e := U16(b, at)
	if w := wrong(e, code, place); v != int(sum(p)) || w != "" {
		t.Errorf("P2.1: U16 of %d bytes at %d: %d, %v %s; want %d, %d", len(b), at, v, e, w, sum(p), code)
	}
}

func check32(t *testing.T, b []byte, at int) {
	t.Helper()
	p, code, place := expected(b, at, 4)
	v, e := U32(b, at)
	if w := wrong(e, code, place); uint64(v) != sum(p) || w != "" {
		t.Errorf("P2.1: U32 of %d bytes at %d: %d, %v %s; want %d, %d", len(b), at, v, e, w, sum(p), code)
	}
}

func checkPart(t *testing.T, b []byte, at, n int) {
	t.Helper()
	p, code, place := expected(b, at, n)
	got, e := Part(b, at, n)
	if w := wrong(e, code, place); !bytes.Equal(got, p) || w != "" {
		t.Errorf("P2.1: Part of %d bytes at %d, %d of them: %v, %v %s; want %v, %d", len(b), at, n, got, e, w, p, code)
	}
}

// Beginning, middle, end, below 0 and behind the end, in lists of every short length.
func TestEveryPlace(t *testing.T) {
	for size := range 12 {
		b := counted(size)
		for at := -3; at < size+6; at++ {
			check16(t, b, at)
			check32(t, b, at)
			for n := -3; n < size+6; n++ {
				checkPart(t, b, at, n)
			}
		}
		if !bytes.Equal(b, counted(size)) {
			t.Errorf("R3: the %d bytes that were handed in were changed", size)
		}
	}
}

func TestNoBytes(t *testing.T) {
	for _, b := range [][]byte{nil, {}, make([]byte, 0, 9)} {
		for at := -2; at < 3; at++ {
			check16(t, b, at)
			check32(t, b, at)
			for n := -2; n < 3; n++ {
				checkPart(t, b, at, n)
			}
		}
	}
}

func TestExample(t *testing.T) {
	if v, e := U16([]byte{1, 2}, 0); v != 258 || e != nil {
		t.Errorf("P2.1: U16 of 1, 2 at 0: %d, %v; want 258", v, e)
	}
}

func TestLongLists(t *testing.T) {
	b := counted(70_000)
	for _, at := range []int{127, 128, 254, 255, 256, 257, 1_999, 2_000, 4_001, 32_767, 32_768, 65_534, 65_535, 65_536, 69_995, 69_996, 69_997, 69_998, 69_999, 70_000, 70_001} {
		check16(t, b, at)
		check32(t, b, at)
		for _, n := range []int{0, 1, 2, 255, 256, 257, 2_000, 65_536} {
			checkPart(t, b, at, n)
		}
	}
	for _, n := range []int{255, 256, 65_535, 65_536, 69_999, 70_000, 70_001} {
		checkPart(t, b, 0, n)
	}
}

// Places and lengths whose sum does not fit an int.
func TestGreatPlaces(t *testing.T) {
	great := []int{math.MaxInt, math.MaxInt - 1, math.MaxInt - 3, math.MaxInt/2 + 1, math.MaxUint32, math.MaxUint32 + 1, math.MaxInt32, math.MaxInt32 + 1}
	small := []int{math.MinInt, math.MinInt + 1, math.MinInt32, math.MinInt32 - 1, -math.MaxUint32 - 1, -1}
	b := counted(6)
	for _, at := range append(small, great...) {
		check16(t, b, at)
		check32(t, b, at)
		checkPart(t, b, at, 0)
		for _, n := range small {
			checkPart(t, b, at, n)
			checkPart(t, b, -at, n)
		}
		for _, n := range great {
			checkPart(t, b, at, n)
		}
	}
	for _, at := range []int{0, 1, 5, 6, 7} {
		for _, n := range append(small, great...) {
			checkPart(t, b, at, n)
		}
	}
}

func TestWrongArgumentsCountFirst(t *testing.T) {
	for _, r := range []struct{ at, n int }{{-1, 9}, {9, -1}, {-1, -1}, {math.MinInt, math.MaxInt}, {math.MaxInt, math.MinInt}} {
		if _, e := Part(nil, r.at, r.n); wrong(e, api.ErrArg, noPlace) != "" {
			t.Errorf("R6: Part of nothing at %d, %d: %v; want %d at no place", r.at, r.n, e, api.ErrArg)
		}
	}
}

func TestNothingFromAnyPlace(t *testing.T) {
	for _, at := range []int{0, 1, 2, 3, 4, 50, math.MaxInt} {
		if p, e := Part([]byte{1, 2, 3}, at, 0); len(p) != 0 || e != nil {
			t.Errorf("P2.1: Part at %d, 0 of them: %v, %v; want none, and no error", at, p, e)
		}
	}
}

// The room behind the end of a list is not a part of it.
func TestRoomBehindTheEnd(t *testing.T) {
	b := counted(12)[:3]
	for at := range 12 {
		check16(t, b, at)
		check32(t, b, at)
		for n := range 12 {
			checkPart(t, b, at, n)
		}
	}
}

func TestEveryNumberOfTwoBytes(t *testing.T) {
	for v := range 1 << 16 {
		b := Put16(nil, v)
		if len(b) != 2 || int(sum(b)) != v {
			t.Fatalf("P2.1: Put16 of %d: %v", v, b)
		}
		if got, e := U16(b, 0); got != v || e != nil {
			t.Fatalf("P2.1: what Put16 put is read as %d, %v; want %d", got, e, v)
		}
	}
}

func TestLowestTwoBytes(t *testing.T) {
	for _, r := range []struct {
		v    int
		want []byte
	}{
		{0, []byte{0, 0}}, {0x10000, []byte{0, 0}}, {0x123456, []byte{0x34, 0x56}}, {-1, []byte{255, 255}}, {-2, []byte{255, 254}}, {-0x8000, []byte{0x80, 0}},
		{-0x10000, []byte{0, 0}}, {-0x12345, []byte{0xdc, 0xbb}}, {math.MaxInt, []byte{255, 255}}, {math.MinInt, []byte{0, 0}}, {math.MinInt + 0x0102, []byte{1, 2}},
	} {
		if b := Put16(nil, r.v); !bytes.Equal(b, r.want) {
			t.Errorf("P2.1: Put16 of %d: %v; want %v", r.v, b, r.want)
		}
	}
}

func TestNumbersOfFourBytes(t *testing.T) {
	numbers := []uint32{0, 0x01020304, 0x04030201, 0xfffefdfc, 0x80000000, 0x7fffffff, math.MaxUint32}
	for i := range 32 {
		numbers = append(numbers, 1<<i, 1<<i-1, ^uint32(1<<i))
	}
	for _, v := range numbers {
		b := Put32(nil, v)
		if len(b) != 4 || sum(b) != uint64(v) {
			t.Errorf("P2.1: Put32 of %#x: %v", v, b)
		}
		if got, e := U32(b, 0); got != v || e != nil {
			t.Errorf("P2.1: what Put32 put is read as %#x, %v; want %#x", got, e, v)
		}
	}
}

// What was there stays ahead of what is put, and what is put is read behind it.
func TestPutBehind(t *testing.T) {
	for _, size := range []int{0, 1, 2, 3, 7, 8, 9, 255, 256, 257, 4_000, 70_000} {
		b := counted(size)
		two, four := Put16(b, 0xa1b2), Put32(b, 0xc3d4e5f6)
		if !bytes.Equal(two, append(counted(size), 0xa1, 0xb2)) || !bytes.Equal(four, append(counted(size), 0xc3, 0xd4, 0xe5, 0xf6)) {
			t.Errorf("P2.1: what was put behind %d bytes is not there, or not alone", size)
		}
		if v, e := U16(two, size); v != 0xa1b2 || e != nil {
			t.Errorf("P2.1: read behind %d bytes: %#x, %v", size, v, e)
		}
		if v, e := U32(four, size); v != 0xc3d4e5f6 || e != nil {
			t.Errorf("P2.1: read behind %d bytes: %#x, %v", size, v, e)
		}
		if !bytes.Equal(b, counted(size)) {
			t.Errorf("R3: the %d bytes that were handed in were changed", size)
		}
	}
	row := Put32(Put16(Put32(Put16(nil, 1), 2), 3), 4)
	if !bytes.Equal(row, []byte{0, 1, 0, 0, 0, 2, 0, 3, 0, 0, 0, 4}) {
		t.Errorf("P2.1: put one behind the other: %v", row)
	}
}

// Neither the bytes nor the room behind their end are written, and two answers from one list share none.
func TestPutIsNew(t *testing.T) {
	for _, room := range []int{0, 1, 2, 3, 4, 8, 100} {
		whole := bytes.Repeat([]byte{7}, 5+room)
		b := whole[:5]
		first := Put16(b, 0x0102)
		second := Put32(b, 0x03040506)
		third := Put16(b, 0x0708)
		fourth := Put32(b, 0x090a0b0c)
		if !bytes.Equal(whole, bytes.Repeat([]byte{7}, 5+room)) {
			t.Errorf("R3: with room for %d: Put wrote into what it was given: %v", room, whole)
		}
		whole[0] = 9
		if first[0] != 7 || second[0] != 7 || third[0] != 7 || fourth[0] != 7 {
			t.Errorf("R3: with room for %d: Put kept what it was given", room)
		}
		fill(third, 99)
		fill(fourth, 99)
		if !bytes.Equal(first, []byte{7, 7, 7, 7, 7, 1, 2}) || !bytes.Equal(second, []byte{7, 7, 7, 7, 7, 3, 4, 5, 6}) || whole[1] != 7 {
			t.Errorf("R3: with room for %d: what Put answered is shared: %v, %v, %v", room, first, second, whole)
		}
	}
}

func TestPutsFromNothing(t *testing.T) {
	for _, b := range [][]byte{nil, {}, make([]byte, 0, 9)} {
		if two, four := Put16(b, 0x0102), Put32(b, 0x01020304); !bytes.Equal(two, []byte{1, 2}) || !bytes.Equal(four, []byte{1, 2, 3, 4}) || b != nil && !bytes.Equal(b[:cap(b)], make([]byte, cap(b))) {
			t.Errorf("P2.1: behind nothing: %v, %v, %v", two, four, b)
		}
	}
}

// fill writes v into all of b, and into the room behind its end.
func fill(b []byte, v byte) {
	b = b[:cap(b)]
	for i := range b {
		b[i] = v
	}
}

func TestPartIsNew(t *testing.T) {
	for at := range 9 {
		for n := range 9 - at {
			b := counted(8)
			p, _ := Part(b, at, n)
			other, _ := Part(b, at, n)
			fill(p, 99)
			if !bytes.Equal(b, counted(8)) || !bytes.Equal(other, counted(8)[at:at+n]) {
				t.Errorf("R3: who writes into Part at %d, %d of them, changes others: %v, %v", at, n, b, other)
			}
			fill(b, 55)
			if !bytes.Equal(other, counted(8)[at:at+n]) {
				t.Errorf("R3: Part at %d, %d of them, is still what was handed in: %v", at, n, other)
			}
		}
	}
}

func TestErrorsAreNew(t *testing.T) {
	for i, of := range []func(at int) error{
		func(at int) error { _, e := U16([]byte{1}, at); return e },
		func(at int) error { _, e := U32([]byte{1}, at); return e },
		func(at int) error { _, e := Part([]byte{1}, at, 2); return e },
	} {
		held, next := of(0), of(1)
		var f *api.Fault
		if wrong(held, api.ErrShort, 0) != "" || !errors.As(next, &f) {
			t.Fatalf("R3: the error %d did not stay what it was: %v; then %v", i, held, next)
		}
		f.At, f.Err = 77, api.ErrBig
		if w := wrong(held, api.ErrShort, 0) + wrong(of(1), api.ErrShort, 1); w != "" {
			t.Errorf("R3: who writes into the error %d changes others: %s", i, w)
		}
	}
}

// Whatever was asked ahead, the same answer comes.
func TestAnswersHangOnArgumentsAlone(t *testing.T) {
	b := counted(10)
	for range 3 {
		for at := 11; at >= -1; at-- {
			check16(t, b, at)
			check32(t, b, at)
			checkPart(t, b, at, 10-at)
			checkPart(t, b, 11-at, at)
			checkPart(t, b, at, -1)
		}
	}
}
