package ether

import (
	"bytes"
	"errors"
	"math"
	"slices"
	"testing"

	"stockade/api"
	"stockade/fault"
)

// noPlace: of an error that says none.
const noPlace = -1

// is tells whether e is an error of that number at that place; of 0 whether there is none.
func is(e error, code api.Errno, at int) bool {
	if code == 0 {
		return e == nil
	}
	place, placed := fault.Place(e)
	if !placed {
		place = noPlace
	}
	return errors.Is(e, code) && fault.Code(e) == code && place == at
}

// frame: twelve bytes, and what is behind them.
func frame(parts ...[]byte) []byte {
	return slices.Concat([]byte{1, 2, 3, 4, 5, 6, 7, 8, 9, 10, 11, 12}, slices.Concat(parts...))
}

// tags: so many of them, no two the same.
func tags(n int) (l []byte) {
	for i := range n {
		l = append(l, 129, 0, byte(i+1), byte(0xf0-i))
	}
	return l
}

func checkParse(t *testing.T, b []byte, kind, at int, code api.Errno, place int) {
	t.Helper()
	before := bytes.Clone(b)
	k, a, e := Parse(b)
	if k != kind || a != at || !is(e, code, place) {
		t.Errorf("P5.1: Parse of %d bytes (%v ..): %d, %d, %v; want %d, %d, %d at %d", len(b), b[:min(len(b), 30)], k, a, e, kind, at, code, place)
	}
	if !bytes.Equal(b, before) {
		t.Errorf("R3: Parse changed the %d bytes that were handed in", len(b))
	}
}

func TestExample(t *testing.T) {
	checkParse(t, append(make([]byte, 12), 8, 0), 2_048, 14, 0, 0)
}

// The kind's place by the number of tags, of a kind that is all there is and of one with something behind it.
func TestParseWithTags(t *testing.T) {
	for n := range api.MaxTags + 1 {
		for size := range 40 {
			checkParse(t, frame(tags(n), []byte{8, 6}, make([]byte, size)), 0x0806, 14+4*n, 0, 0)
			checkParse(t, frame(tags(n), []byte{8, 6}, bytes.Repeat([]byte{129, 0}, size)), 0x0806, 14+4*n, 0, 0)
		}
	}
}

func TestParseEveryKind(t *testing.T) {
	for n := range api.MaxTags + 1 {
		for kind := range 1 << 16 {
			if kind != 33_024 {
				checkParse(t, frame(tags(n), []byte{byte(kind / 256), byte(kind % 256)}), kind, 14+4*n, 0, 0)
			}
		}
	}
}

// What is in a tag is passed over, be it the kind of one too; so are the twelve bytes.
func TestParsePassesOver(t *testing.T) {
	for tag := range 1 << 16 {
		b := []byte{129, 0, byte(tag / 256), byte(tag % 256)}
		checkParse(t, frame(b, []byte{8, 0}), 2_048, 18, 0, 0)
		checkParse(t, frame(b, b, []byte{8, 0}), 2_048, 22, 0, 0)
		checkParse(t, frame(b, b, b), 0, 0, api.ErrDeep, 20)
	}
	for v := range 256 {
		checkParse(t, slices.Concat(bytes.Repeat([]byte{byte(v)}, 12), []byte{8, 0}), 2_048, 14, 0, 0)
	}
	checkParse(t, slices.Concat(bytes.Repeat([]byte{129, 0}, 6), []byte{8, 0}), 2_048, 14, 0, 0)
}

// One tag too many is too deep where it begins, as soon as its kind is there.
func TestParseTooDeep(t *testing.T) {
	for n := api.MaxTags + 1; n < api.MaxTags+6; n++ {
		b := frame(tags(n), []byte{8, 0})
		for size := 22; size <= len(b); size++ {
			checkParse(t, b[:size], 0, 0, api.ErrDeep, 20)
		}
	}
	checkParse(t, frame(bytes.Repeat([]byte{129, 0}, 5)), 0, 0, api.ErrDeep, 20)
	checkParse(t, bytes.Repeat([]byte{129, 0}, 900), 0, 0, api.ErrDeep, 20)
}

// Cut at each place up to the end of the kind: what is wanted is the first kind that is not there whole.
// A tag's kind without all of its tag is not short itself: what is behind it is.
func TestParseCut(t *testing.T) {
	for n := range api.MaxTags + 1 {
		b := frame(tags(n), []byte{8, 0})
		for size := range b {
			place := 12
			for i := range n {
				if size >= 14+4*i {
					place = 16 + 4*i
				}
			}
			checkParse(t, b[:size], 0, 0, api.ErrShort, place)
			checkParse(t, bytes.Clone(b[:size]), 0, 0, api.ErrShort, place)
		}
	}
}

func TestParseOfNothing(t *testing.T) {
	for _, b := range [][]byte{nil, {}, make([]byte, 0, 50), append(make([]byte, 12), 8, 0)[:0]} {
		checkParse(t, b, 0, 0, api.ErrShort, 12)
	}
}

// The places of the cuts, by hand.
func TestParseCutByHand(t *testing.T) {
	for _, r := range []struct {
		tags, size, place int
	}{{0, 0, 12}, {0, 11, 12}, {0, 12, 12}, {0, 13, 12}, {1, 13, 12}, {1, 14, 16}, {1, 15, 16}, {1, 16, 16}, {1, 17, 16}, {2, 13, 12}, {2, 17, 16}, {2, 18, 20}, {2, 19, 20}, {2, 20, 20}, {2, 21, 20}, {3, 17, 16}, {3, 21, 20}} {
		checkParse(t, frame(tags(r.tags), []byte{8, 0})[:r.size], 0, 0, api.ErrShort, r.place)
	}
}

// Of more than MaxFrame bytes nothing else is told, whatever is in them.
func TestParseTooBig(t *testing.T) {
	for n := range api.MaxTags + 2 {
		b := frame(tags(n), []byte{8, 0}, make([]byte, 70_000))
		for _, size := range []int{api.MaxFrame - 1, api.MaxFrame} {
			if n > api.MaxTags {
				checkParse(t, b[:size], 0, 0, api.ErrDeep, 20)
			} else {
				checkParse(t, b[:size], 2_048, 14+4*n, 0, 0)
			}
		}
		for _, size := range []int{api.MaxFrame + 1, api.MaxFrame + 2, 2 * api.MaxFrame, 65_536, len(b)} {
			checkParse(t, b[:size], 0, 0, api.ErrBig, noPlace)
		}
	}
}

// built: what the promise says of Build, byte by byte; nil, if an argument may not be.
func built(kind int, tags []int, b []byte) []byte {
	f := make([]byte, 12)
	for _, v := range tags {
		f = append(f, 129, 0, byte(v/256), byte(v%256))
		if v < 0 || v > 65_535 {
			return nil
		}
	}
	f = append(f, byte(kind/256), byte(kind%256))
	f = append(f, b...)
	if kind < 0 || kind > 65_535 || kind == 33_024 || len(tags) > 2 || len(f) > 2_000 {
		return nil
	}
	return f
}

// checkBuild: Build answers what the promise says, leaves what it is given, and what it built is parsed.
func checkBuild(t *testing.T, kind int, tags []int, b []byte) {
	t.Helper()
	tagsBefore, bytesBefore := slices.Clone(tags), bytes.Clone(b)
	want := built(kind, tags, b)
	f, e := Build(kind, tags, b)
	if want == nil && (!is(e, api.ErrArg, noPlace) || len(f) != 0) || want != nil && e != nil || !bytes.Equal(f, want) {
		t.Errorf("P5.1: Build of kind %d, tags %v and %d bytes: %d bytes (%v ..), %v; want %d bytes", kind, tags[:min(len(tags), 5)], len(b), len(f), f[:min(len(f), 30)], e, len(want))
	}
	if !slices.Equal(tags, tagsBefore) || !bytes.Equal(b, bytesBefore) {
		t.Errorf("R3: Build of kind %d changed the tags or the %d bytes that were handed in", kind, len(b))
	}
	if want == nil {
		return
	}
	if k, at, e := Parse(f); k != kind || at != 14+4*len(tags) || e != nil || !bytes.Equal(f[at:], b) {
		t.Errorf("P5.1: what was built of kind %d, tags %v and %d bytes is parsed as %d, %d, %v", kind, tags, len(b), k, at, e)
	}
}

func TestBuildByHand(t *testing.T) {
	none := []byte{0, 0, 0, 0, 0, 0, 0, 0, 0, 0, 0, 0}
	for _, r := range []struct {
		kind int
		tags []int
		b    []byte
		want []byte
	}{
		{0, nil, nil, []byte{0, 0}},
		{2_048, nil, nil, []byte{8, 0}},
		{34_525, []int{}, []byte{7}, []byte{0x86, 0xdd, 7}},
		{0x1234, []int{0x5678}, []byte{9, 8}, []byte{0x81, 0, 0x56, 0x78, 0x12, 0x34, 9, 8}},
		{65_535, []int{1, 65_535}, []byte{3}, []byte{0x81, 0, 0, 1, 0x81, 0, 255, 255, 255, 255, 3}},
		{33_023, []int{33_024, 33_024}, []byte{0x81, 0}, []byte{0x81, 0, 0x81, 0, 0x81, 0, 0x81, 0, 0x80, 255, 0x81, 0}},
	} {
		f, e := Build(r.kind, r.tags, r.b)
		if want := append(none[:12:12], r.want...); e != nil || !bytes.Equal(f, want) {
			t.Errorf("P5.1: Build of kind %d, tags %v, %v: %v, %v; want %v", r.kind, r.tags, r.b, f, e, want)
		}
		checkBuild(t, r.kind, r.tags, r.b)
	}
}

func TestBuildEveryKindAndTag(t *testing.T) {
	for v := range 1 << 16 {
		checkBuild(t, v, nil, nil)
		checkBuild(t, v, []int{v}, []byte{1})
		checkBuild(t, 5, []int{v}, nil)
		checkBuild(t, 5, []int{65_535 - v, v}, []byte{1, 2})
	}
}

// wrong: numbers that two bytes have no room for; of many the two lowest bytes would do.
func wrong() []int {
	return []int{-1, -2, -256, -33_024, -65_535, -65_536, 65_536, 65_537, 65_536 + 2_048, 65_536 + 33_024, 1 << 24, math.MinInt32, math.MaxInt32, math.MaxUint32, 1<<32 + 5, math.MinInt, math.MinInt + 5, math.MaxInt, math.MaxInt - 5}
}

// Just one argument that may not be, in each place, and several.
func TestBuildOutOfRange(t *testing.T) {
	for _, v := range wrong() {
		checkBuild(t, v, nil, nil)
		checkBuild(t, v, []int{1, 2}, []byte{3})
		checkBuild(t, 5, []int{v}, nil)
		checkBuild(t, 5, []int{v, 2}, []byte{3})
		checkBuild(t, 5, []int{2, v}, []byte{3})
		checkBuild(t, v, []int{v, v, v}, make([]byte, 3_000))
		if built(5, []int{2, v}, nil) != nil || built(v, nil, nil) != nil {
			t.Errorf("the tests' own frame of %d: there is one", v)
		}
	}
}

// The kind of a tag may not be a frame's, however many tags there are; as a tag it may be.
func TestBuildOfATag(t *testing.T) {
	for _, l := range [][]int{nil, {33_024}, {33_024, 33_024}, {0}, {0, 65_535}} {
		for _, b := range [][]byte{nil, {8, 0}, {0, 5, 8, 0}} {
			if f, e := Build(33_024, l, b); len(f) != 0 || !is(e, api.ErrArg, noPlace) {
				t.Errorf("P5.1: Build of kind 33024, tags %v: %v, %v; want %d", l, f, e, api.ErrArg)
			}
			if f, e := Build(2_048, l, b); len(f) != 14+4*len(l)+len(b) || e != nil {
				t.Errorf("P5.1: Build of kind 2048, tags %v: %v, %v", l, f, e)
			}
			checkBuild(t, 2_048, l, b)
		}
	}
}

func TestBuildTags(t *testing.T) {
	for n := range 2_000 {
		checkBuild(t, 5, make([]int, n), nil)
	}
	for _, n := range []int{3, 4, 500, 65_536, 1_000_000} {
		if f, e := Build(5, make([]int, n), nil); len(f) != 0 || !is(e, api.ErrArg, noPlace) {
			t.Errorf("P5.1: Build with %d tags: %d bytes, %v; want %d", n, len(f), e, api.ErrArg)
		}
	}
}

// All of it counts, the tags too.
func TestBuildSize(t *testing.T) {
	for n := range api.MaxTags + 1 {
		room := api.MaxFrame - 14 - 4*n
		for size := range api.MaxFrame + 20 {
			b := bytes.Repeat([]byte{0x5a}, size)
			checkBuild(t, 2_048, make([]int, n), b)
			if f, e := Build(2_048, make([]int, n), b); (e == nil) != (size <= room) || size == room && len(f) != api.MaxFrame {
				t.Errorf("P5.1: Build with %d tags of %d bytes: %d bytes, %v; there is room for %d", n, size, len(f), e, room)
			}
		}
		checkBuild(t, 2_048, make([]int, n), make([]byte, 70_000))
	}
}

// fill writes v into all of b, and into the room behind its end.
func fill(b []byte, v byte) {
	b = b[:cap(b)]
	for i := range b {
		b[i] = v
	}
}

// Neither bytes and tags nor the room behind their ends are written or kept, and two answers share nothing.
func TestBuildIsNew(t *testing.T) {
	for size := range 12 {
		for n := range api.MaxTags + 1 {
			room, more := bytes.Repeat([]byte{7}, 60), []int{5, 6, 5, 6, 5, 6, 5, 6}
			b, l := room[20:20+size], more[2:2+n]
			first, _ := Build(2_048, l, b)
			second, _ := Build(2_048, l, b)
			want := built(2_048, l, b)
			if !bytes.Equal(room, bytes.Repeat([]byte{7}, 60)) || !slices.Equal(more, []int{5, 6, 5, 6, 5, 6, 5, 6}) {
				t.Errorf("R3: Build wrote into what it was given: %v, %v", room, more)
			}
			fill(first, 99)
			if !bytes.Equal(second, want) || !bytes.Equal(room, bytes.Repeat([]byte{7}, 60)) {
				t.Errorf("R3: who writes into what Build answered changes others: %v, %v", second, room)
			}
			fill(room, 55)
			if more[2], more[3] = 9, 9; !bytes.Equal(second, want) {
				t.Errorf("R3: Build kept what it was given: %v", second)
			}
		}
	}
}

// What stands behind the end of a frame is not a part of it.
func TestParseRoomBehindTheEnd(t *testing.T) {
	whole := frame(tags(2), []byte{8, 0}, make([]byte, 3_000))
	before := bytes.Clone(whole)
	for size := range 22 {
		if k, at, e := Parse(whole[:size]); k != 0 || at != 0 || !errors.Is(e, api.ErrShort) {
			t.Errorf("P5.1: Parse of the first %d bytes: %d, %d, %v", size, k, at, e)
		}
	}
	checkParse(t, whole[:api.MaxFrame], 2_048, 22, 0, 0)
	if !bytes.Equal(whole, before) {
		t.Errorf("R3: Parse wrote behind the end of what it was given")
	}
}

// Who writes into an error changes no other one.
func TestErrorsAreNew(t *testing.T) {
	for _, r := range []struct {
		b     []byte
		code  api.Errno
		place int
	}{{nil, api.ErrShort, 12}, {frame(tags(3)), api.ErrDeep, 20}} {
		_, _, held := Parse(r.b)
		_, _, next := Parse(r.b)
		var f *api.Fault
		if !errors.As(next, &f) {
			t.Fatalf("R4: %v: no place in it", next)
		}
		f.At, f.Err = 77, api.ErrBig
		if !is(held, r.code, r.place) {
			t.Errorf("R3: who writes into one error changes another: %v", held)
		}
		checkParse(t, r.b, 0, 0, r.code, r.place)
	}
}

// Whatever was asked ahead, the same answer comes.
func TestAnswersHangOnArgumentsAlone(t *testing.T) {
	for range 3 {
		checkParse(t, frame(tags(2), []byte{8, 0}), 2_048, 22, 0, 0)
		checkBuild(t, 7, []int{8, 9}, []byte{1})
		checkParse(t, frame(tags(3)), 0, 0, api.ErrDeep, 20)
		checkBuild(t, -1, []int{8}, []byte{1})
		checkParse(t, nil, 0, 0, api.ErrShort, 12)
		checkBuild(t, 7, nil, nil)
		checkParse(t, frame([]byte{8, 0}), 2_048, 14, 0, 0)
	}
}
