package name

import (
	"bytes"
	"errors"
	"math"
	"regexp"
	"slices"
	"strings"
	"testing"

	"stockade/api"
	"stockade/fault"
)

// noPlace: of an error that says none.
const noPlace = -1

// is tells whether e is an error of that number at that place; of 0 whether there is none.
func is(e error, code api.Errno, at int) bool {
	if code == 0 {
		return e == nil
	}
	place, placed := fault.Place(e)
	if !placed {
		place = noPlace
	}
	return errors.Is(e, code) && fault.Code(e) == code && place == at
}

// letters: each byte that a label may have.
const letters = "!\"#$%&'()*+,-/0123456789:;<=>?@[\\]^_`abcdefghijklmnopqrstuvwxyz{|}~"

// shape: the chapter's words of a name, but for how long it is.
var shape = regexp.MustCompile(`\A([!-\-/-@\[-~]{1,63}(\.[!-\-/-@\[-~]{1,63})*)?\z`)

// between: what is between the dots of a name, found byte by byte.
func between(name string) (l []string) {
	if name == "" {
		return nil
	}
	l = []string{""}
	for i := range len(name) {
		if name[i] == '.' {
			l = append(l, "")
		} else {
			l[len(l)-1] += name[i : i+1]
		}
	}
	return l
}

// written: a name's bytes, right or not, found from its end on: a dot becomes the length of what is behind it.
func written(name string) []byte {
	if name == "" {
		return []byte{0}
	}
	b := []byte("." + name + "\x00")
	n := 0
	for i := len(b) - 2; i >= 0; i-- {
		n++
		if b[i] == '.' {
			b[i], n = byte(n-1), 0
		}
	}
	return b
}

// right: what the chapter's words say of Right.
func right(name string) bool {
	return shape.MatchString(name) && len(written(name)) <= 255
}

// bytesOf: as they stand in a test's text, a few of them.
func bytesOf(b []byte) []byte {
	return b[:min(len(b), 40)]
}

// checkRight: the name is one; Right and Write say so, and what is written is read.
func checkRight(t *testing.T, name string) {
	t.Helper()
	want := written(name)
	b, e := Write(name)
	if !Right(name) || e != nil || !bytes.Equal(b, want) {
		t.Fatalf("P12.1: Right(%q): %v, Write: %v, %v; want true, %v", name, Right(name), b, e, want)
	}
	checkName(t, want, 0, name, len(want))
	if name == "" {
		return
	}
	if l := Labels(name); !slices.Equal(l, between(name)) {
		t.Fatalf("P12.1: Labels(%q): %q; want %q", name, l, between(name))
	}
}

// checkNone: the name is none; Right and Write say so.
func checkNone(t *testing.T, name string) {
	t.Helper()
	b, e := Write(name)
	if Right(name) || !is(e, api.ErrName, noPlace) || len(b) != 0 {
		t.Fatalf("P12.1: Right of %d bytes (%q): %v, Write: %v, %v; want false, none, %d", len(name), name[:min(len(name), 300)], Right(name), bytesOf(b), e, api.ErrName)
	}
}

// checkWhether: as the chapter's words say.
func checkWhether(t *testing.T, name string) {
	t.Helper()
	if right(name) {
		checkRight(t, name)
	} else {
		checkNone(t, name)
	}
}

// checkName: Read at that place answers this, and leaves what it was given.
func checkName(t *testing.T, b []byte, at int, name string, end int) {
	t.Helper()
	before := bytes.Clone(b)
	got, behind, e := Read(b, at)
	if got != name || behind != end || e != nil {
		t.Fatalf("P12.2: Read of %d bytes (%v ..) at %d: %q, %d, %v; want %q, %d", len(b), bytesOf(b), at, got, behind, e, name, end)
	}
	if !bytes.Equal(b, before) {
		t.Fatalf("R3: Read at %d changed the bytes that were handed in", at)
	}
}

// checkError: Read at that place answers that error alone, and leaves what it was given.
func checkError(t *testing.T, b []byte, at int, code api.Errno, place int) {
	t.Helper()
	before := bytes.Clone(b)
	got, behind, e := Read(b, at)
	if !is(e, code, place) || e == nil {
		t.Fatalf("P12.2: Read of %d bytes (%v ..) at %d: %q, %d, %v at %v; want %d at %d", len(b), bytesOf(b), at, got, behind, e, placeOf(e), code, place)
	}
	if got != "" || behind != 0 {
		t.Fatalf("R5: Read at %d: %q, %d beside %v", at, got, behind, e)
	}
	if !bytes.Equal(b, before) {
		t.Fatalf("R3: Read at %d changed the bytes that were handed in", at)
	}
}

// placeOf: of an error, or noPlace.
func placeOf(e error) int {
	if at, is := fault.Place(e); is {
		return at
	}
	return noPlace
}

// answer of Read, as the promise says.
type answer struct {
	name  string
	end   int
	code  api.Errno
	place int
}

// expected: what the promise says of Read, sentence by sentence.
func expected(b []byte, at int) answer {
	if at < 0 {
		return answer{code: api.ErrArg, place: noPlace}
	}
	name, size, end, led := "", 0, -1, []int{at}
	for {
		if at >= len(b) {
			return answer{code: api.ErrShort, place: at}
		}
		n := int(b[at])
		switch {
		case n == 0:
			if end < 0 {
				end = at + 1
			}
			return answer{name: strings.TrimPrefix(name, "."), end: end}
		case n >= 1 && n <= 63:
			l, code := expectedLabel(b[at+1:], n)
			if code != 0 {
				return answer{code: code, place: at}
			}
			size += 1 + n
			if size+1 > 255 {
				return answer{code: api.ErrName, place: at}
			}
			name += "." + l
			at += 1 + n
		case n >= 192:
			if at+1 >= len(b) {
				return answer{code: api.ErrShort, place: at}
			}
			to := (n-192)*256 + int(b[at+1])
			for _, l := range led {
				if to >= l {
					return answer{code: api.ErrPointer, place: at}
				}
			}
			if end < 0 {
				end = at + 2
			}
			led = append(led, to)
			at = to
		default:
			return answer{code: api.ErrLabel, place: at}
		}
	}
}

// expectedLabel: the first n bytes as a label, or what is wrong with it.
func expectedLabel(b []byte, n int) (string, api.Errno) {
	if n > len(b) {
		return "", api.ErrShort
	}
	s := ""
	for _, c := range b[:n] {
		if at := strings.IndexByte("ABCDEFGHIJKLMNOPQRSTUVWXYZ", c); at >= 0 {
			c = "abcdefghijklmnopqrstuvwxyz"[at]
		}
		if strings.IndexByte(letters, c) < 0 {
			return "", api.ErrLabel
		}
		s += string([]byte{c})
	}
	return s, 0
}

// checkRead holds Read at that place against the promise.
func checkRead(t *testing.T, b []byte, at int) {
	t.Helper()
	w := expected(b, at)
	if w.code == 0 {
		checkName(t, b, at, w.name, w.end)
	} else {
		checkError(t, b, at, w.code, w.place)
	}
}

// checkPlaces: the same at each place, and about both ends.
func checkPlaces(t *testing.T, b []byte) {
	t.Helper()
	for at := -2; at < len(b)+3; at++ {
		checkRead(t, b, at)
	}
}

// labelOf: so many letters, no two neighbours the same.
func labelOf(n int) string {
	var s strings.Builder
	for i := range n {
		s.WriteByte(letters[(i*5+n)%len(letters)])
	}
	return s.String()
}

// named: a name of labels of these lengths.
func named(lengths ...int) string {
	var l []string
	for _, n := range lengths {
		l = append(l, labelOf(n))
	}
	return strings.Join(l, ".")
}

// random: so many bytes that hang on the seed alone.
func random(seed *uint32, n int) []byte {
	b := make([]byte, n)
	for i := range b {
		*seed = *seed*1_664_525 + 1_013_904_223
		b[i] = byte(*seed >> 24)
	}
	return b
}

func TestExample(t *testing.T) {
	checkName(t, []byte{1, 'a', 0}, 0, "a", 3)
}

func TestRightByHand(t *testing.T) {
	for _, r := range []struct {
		name string
		want []byte
	}{
		{"", []byte{0}},
		{"a", []byte{1, 'a', 0}},
		{"www.example", []byte{3, 'w', 'w', 'w', 7, 'e', 'x', 'a', 'm', 'p', 'l', 'e', 0}},
		{"a.b.c", []byte{1, 'a', 1, 'b', 1, 'c', 0}},
		{"_x-1.*.~", []byte{4, '_', 'x', '-', '1', 1, '*', 1, '~', 0}},
		{"10.0", []byte{2, '1', '0', 1, '0', 0}},
		{"-.!/", []byte{1, '-', 2, '!', '/', 0}},
		{`\.@`, []byte{1, '\\', 1, '@', 0}},
	} {
		if b, e := Write(r.name); !Right(r.name) || !bytes.Equal(b, r.want) || e != nil {
			t.Errorf("P12.1: Right(%q): %v, Write: %v, %v; want true, %v", r.name, Right(r.name), b, e, r.want)
		}
		checkRight(t, r.name)
	}
	for _, s := range []string{".", "..", "...", ".a", "a.", "a..b", "..a", "a..", ".a.", "a.b.", ".a.b", "a.b..c", "A", "aB", "a.B.c", "Z.z", " ", "a b", "a. .b", "a\t", "a\n", "a\x00", "\x00", "\x1f", "\x7f", "a\x7fb", "\x80", "\xff", "é", "bücher.de", "a.\xc0\x01", "\u212a", "a\u0130"} {
		if right(s) {
			t.Errorf("the tests' own name %q is one", s)
		}
		checkNone(t, s)
	}
}

// What the tests take for a label's bytes is what the chapter says.
func TestLetters(t *testing.T) {
	for c := range 256 {
		want := c >= 33 && c <= 126 && c != '.' && (c < 'A' || c > 'Z')
		if strings.IndexByte(letters, byte(c)) >= 0 != want || right(string([]byte{byte(c)})) != want {
			t.Fatalf("the tests' own letter %d: want %v", c, want)
		}
	}
}

// Each byte as a label by itself, and in one: at its beginning, in its midst, at its end; and of each label of a name.
func TestEveryByte(t *testing.T) {
	for c := range 256 {
		s := string([]byte{byte(c)})
		good := c >= 33 && c <= 126 && c != '.' && (c < 'A' || c > 'Z')
		for _, around := range [][2]string{{"", ""}, {"", "x"}, {"x", ""}, {"x", "y"}, {"", ".b"}, {"a.", ""}, {"a.", ".b"}, {"a.x", "y.b"}, {labelOf(30), labelOf(32)}} {
			name := around[0] + s + around[1]
			switch {
			case good:
				checkRight(t, name)
			case c != '.':
				checkNone(t, name)
			}
		}
		if c == '.' {
			checkNone(t, s)
		}
	}
}

func TestReadEveryByte(t *testing.T) {
	for c := range 256 {
		want := string([]byte{byte(c)})
		good := c >= 33 && c <= 126 && c != '.'
		if c >= 'A' && c <= 'Z' {
			want = string([]byte{byte(c + 32)})
		}
		for _, r := range []struct {
			b     []byte
			name  string
			place int
		}{
			{[]byte{1, byte(c), 0}, want, 0},
			{[]byte{2, byte(c), 'x', 0}, want + "x", 0},
			{[]byte{2, 'x', byte(c), 0}, "x" + want, 0},
			{[]byte{1, 'a', 1, byte(c), 0}, "a." + want, 2},
			{[]byte{1, byte(c), 1, 'b', 0}, want + ".b", 0},
			{[]byte{2, 'x', 'y', 3, 'x', byte(c), 'y', 1, 'b', 0}, "xy.x" + want + "y.b", 3},
		} {
			if good {
				checkName(t, r.b, 0, r.name, len(r.b))
			} else {
				checkError(t, r.b, 0, api.ErrLabel, r.place)
			}
		}
	}
}

// No call of the library that knows of other capitals has a hand in it.
func TestReadOtherCapitals(t *testing.T) {
	for _, s := range []string{"\u212a", "\u0130", "É", "Ω", "\u017f", "Ａ", "\xc9", "k\xe2\x84", "\xf0\x90\x90\x80"} {
		b := append([]byte{byte(len(s))}, s+"\x00"...)
		checkError(t, b, 0, api.ErrLabel, 0)
		checkError(t, append([]byte{1, 'a'}, b...), 0, api.ErrLabel, 2)
		checkNone(t, s)
	}
}

// A label by itself, and as the first, the midst and the last one.
func TestLabelLengths(t *testing.T) {
	if api.MaxLabel != 63 || api.MaxName != 255 {
		t.Fatal("the tests are of other limits")
	}
	for n := range 140 {
		l := labelOf(n)
		names := []string{l + ".b", "a." + l, "a." + l + ".b", l + "." + l}
		if n > 0 {
			names = append(names, l)
		}
		for _, name := range names {
			if n >= 1 && n <= 63 {
				checkRight(t, name)
			} else {
				checkNone(t, name)
			}
		}
	}
	for _, n := range []int{255, 256, 257, 300, 320, 65_537, 1 << 20} {
		checkNone(t, strings.Repeat("a", n))
		checkNone(t, "a."+strings.Repeat("a", n))
	}
}

func TestReadLabelLengths(t *testing.T) {
	for n := 1; n < 64; n++ {
		l := labelOf(n)
		b := append(append([]byte{byte(n)}, l...), 0, 1, 'z')
		checkName(t, b, 0, l, n+2)
		checkName(t, append([]byte{1, 'y'}, b...), 0, "y."+l, n+4)
		checkName(t, append([]byte{9, 1, 'y'}, b...), 3, l, n+5)
	}
}

// The names that are just so long, longer and shorter, of few long labels and of many short ones.
func TestNameLengths(t *testing.T) {
	for last := 1; last < 64; last++ {
		for n := range 5 {
			name := named(append(slices.Repeat([]int{63}, n), last)...)
			if whole := 64*n + last + 2; whole <= 255 {
				checkRight(t, name)
			} else {
				checkNone(t, name)
			}
		}
	}
	for size := 1; size < 8; size++ {
		for n := 1; n < 260; n++ {
			name := named(slices.Repeat([]int{size}, n)...)
			if whole := (size+1)*n + 1; whole <= 255 {
				checkRight(t, name)
			} else {
				checkNone(t, name)
			}
		}
	}
	for _, r := range []struct {
		lengths []int
		want    bool
	}{
		{[]int{63, 63, 63, 60}, true}, {[]int{63, 63, 63, 61}, true}, {[]int{63, 63, 63, 62}, false}, {[]int{63, 63, 63, 63}, false},
		{[]int{61, 63, 63, 63}, true}, {[]int{62, 63, 63, 63}, false}, {[]int{1, 63, 63, 63, 59}, true}, {[]int{1, 63, 63, 63, 60}, false},
		{slices.Repeat([]int{1}, 126), true}, {slices.Repeat([]int{1}, 127), true}, {slices.Repeat([]int{1}, 128), false},
		{append(slices.Repeat([]int{1}, 126), 2), false}, {append(slices.Repeat([]int{1}, 125), 3), true}, {append(slices.Repeat([]int{1}, 125), 4), false},
	} {
		name := named(r.lengths...)
		if r.want {
			checkRight(t, name)
		} else {
			checkNone(t, name)
		}
	}
	for _, n := range []int{256, 257, 1_000, 70_000, 1 << 20} {
		checkNone(t, strings.Repeat("a.", n)+"a")
		checkNone(t, strings.Repeat(".", n))
		checkNone(t, strings.Repeat("a.", n))
	}
}

// long: labels of these lengths, one behind the other, and what is behind them.
func long(behind []byte, lengths ...int) []byte {
	b := written(named(lengths...))
	return slices.Concat(b[:len(b)-1], behind)
}

// What would be too long is told at the label with which it would be, whatever is behind that.
func TestReadNameLengths(t *testing.T) {
	for _, r := range []struct {
		lengths []int
		place   int // of the label that is too much; 0, if none is
	}{
		{[]int{63, 63, 63, 60}, 0}, {[]int{63, 63, 63, 61}, 0}, {[]int{63, 63, 63, 62}, 192}, {[]int{63, 63, 63, 63}, 192},
		{[]int{61, 63, 63, 63}, 0}, {[]int{62, 63, 63, 63}, 191}, {[]int{63, 63, 63, 61, 1}, 254}, {[]int{63, 63, 63, 59, 1}, 0}, {[]int{63, 63, 63, 60, 1}, 253},
		{slices.Repeat([]int{1}, 126), 0}, {slices.Repeat([]int{1}, 127), 0}, {slices.Repeat([]int{1}, 128), 254}, {slices.Repeat([]int{1}, 200), 254},
		{append(slices.Repeat([]int{1}, 126), 2), 252}, {append(slices.Repeat([]int{1}, 125), 3), 0}, {append(slices.Repeat([]int{1}, 125), 4), 250},
	} {
		for _, ahead := range [][]byte{nil, {7}, bytes.Repeat([]byte{0}, 300)} {
			for _, behind := range [][]byte{{0}, {}, {64}, {1, ' '}, {5, 'a'}, {192}, {192, 0}, {0, 1, 2}} {
				b := slices.Concat(ahead, long(behind, r.lengths...))
				if r.place > 0 {
					checkError(t, b, len(ahead), api.ErrName, len(ahead)+r.place)
				} else if len(behind) > 0 && behind[0] == 0 {
					checkName(t, b, len(ahead), named(r.lengths...), len(b)-len(behind)+1)
				}
				checkRead(t, b, len(ahead))
			}
		}
	}
}

func TestLabels(t *testing.T) {
	for _, r := range []struct {
		name string
		want []string
	}{
		{"", nil}, {"a", []string{"a"}}, {"a.b", []string{"a", "b"}}, {"www.example.org", []string{"www", "example", "org"}},
		{".", []string{"", ""}}, {"..", []string{"", "", ""}}, {".a", []string{"", "a"}}, {"a.", []string{"a", ""}}, {"a..b", []string{"a", "", "b"}}, {".a.", []string{"", "a", ""}},
		{"A.b C", []string{"A", "b C"}}, {"\x00.\xff", []string{"\x00", "\xff"}}, {"é.\u212a", []string{"é", "\u212a"}}, {"\xe2\x84.\xaa", []string{"\xe2\x84", "\xaa"}},
	} {
		if l := Labels(r.name); !slices.Equal(l, r.want) || !slices.Equal(between(r.name), r.want) {
			t.Errorf("P12.1: Labels(%q): %q; want %q", r.name, l, r.want)
		}
	}
	for _, name := range []string{named(63, 63, 63, 61), named(slices.Repeat([]int{1}, 127)...), named(64, 200, 1), named(slices.Repeat([]int{3}, 2_000)...), strings.Repeat("a", 5_000), strings.Repeat(".", 5_000)} {
		if l := Labels(name); !slices.Equal(l, between(name)) || len(l) != strings.Count(name, ".")+1 || strings.Join(l, ".") != name {
			t.Errorf("P12.1: Labels of %d bytes (%q ..): %d of them", len(name), name[:20], len(l))
		}
	}
}

func TestUnderByHand(t *testing.T) {
	for _, r := range []struct {
		name, zone string
		want       bool
	}{
		{"", "", true}, {"a", "", true}, {"a.b", "", true}, {".", "", true}, {"A b", "", true},
		{"www.example.org", "www.example.org", true}, {"www.example.org", "example.org", true}, {"www.example.org", "org", true},
		{"www.example.org", "ample.org", false}, {"www.example.org", "xample.org", false}, {"www.example.org", "rg", false}, {"www.example.org", ".org", false}, {"www.example.org", ".example.org", false},
		{"www.example.org", "www", false}, {"www.example.org", "www.example", false}, {"www.example.org", "example", false}, {"www.example.org", "x.org", false},
		{"example.org", "www.example.org", false}, {"org", "www.example.org", false}, {"", "org", false}, {"", ".", false}, {"org", ".org", false}, {"notexample.org", "example.org", false},
		{"www.example.org", "Example.org", false}, {"www.EXAMPLE.org", "example.org", false}, {"WWW.example.org", "example.org", true}, {"ORG", "org", false},
		{"a..b", "b", true}, {"a..b", ".b", true}, {"a..b", "..b", false}, {".b", "b", true}, {".", ".", true}, {"..", ".", true}, {"a.", ".", false}, {"a..", ".", true}, {"a.b.", "b.", true}, {"a.b.", "b", false}, {"a.b", "b.", false},
		{"a b.c d", "c d", true}, {"a b.c d", "d", false}, {"\xff.\xfe", "\xfe", true}, {"\xff\xfe", "\xfe", false}, {"a.a", "a", true}, {"aa", "a", false}, {"a.a.a", "a.a", true},
	} {
		if Under(r.name, r.zone) != r.want {
			t.Errorf("P12.1: Under(%q, %q): %v", r.name, r.zone, !r.want)
		}
	}
}

// Each end of a name, also of what is none: it is a zone of it where a label begins.
func TestUnderEachEnd(t *testing.T) {
	for _, name := range []string{"a", "abc", "www.example.org", named(63, 63, 63, 61), named(slices.Repeat([]int{1}, 127)...), named(100, 200, 300), "a..b", ".a.", "A.b C.d"} {
		for at := range len(name) + 1 {
			zone := name[at:]
			want := at == 0 || zone == "" || name[at-1] == '.'
			if Under(name, zone) != want {
				t.Fatalf("P12.1: Under(%q, %q): %v", name, zone, !want)
			}
			if zone != "" && (Under(name, zone+"x") || Under(name, "x"+zone) || Under(zone, "x."+zone) || !Under("x."+zone, zone) || Under("x"+zone, zone)) {
				t.Fatalf("P12.1: Under of about %q", zone)
			}
		}
		for at := range len(name) {
			if at > 0 && Under(name, name[:at]) != strings.HasSuffix("."+name, "."+name[:at]) {
				t.Fatalf("P12.1: Under(%q, %q)", name, name[:at])
			}
		}
		if Under(name, "x."+name) || Under("", name) || !Under(name, "") {
			t.Fatalf("P12.1: Under of %q and a longer zone, or of none", name)
		}
	}
}

func TestReadByHand(t *testing.T) {
	// ab.c at 0, a pointer to c at 6, d and a pointer to all at 9, one to the end alone at 13, e and a pointer to a pointer at 15.
	b := []byte{2, 'a', 'B', 1, 'C', 0, 192, 3, 0, 1, 'd', 192, 0, 192, 5, 2, 'E', 'e', 192, 9, 0}
	for _, r := range []struct {
		at   int
		name string
		end  int
	}{{0, "ab.c", 6}, {3, "c", 6}, {5, "", 6}, {6, "c", 8}, {8, "", 9}, {9, "d.ab.c", 13}, {11, "ab.c", 13}, {12, "", 13}, {13, "", 15}, {15, "ee.d.ab.c", 20}, {18, "d.ab.c", 20}, {20, "", 21}} {
		checkName(t, b, r.at, r.name, r.end)
	}
	for _, r := range []struct {
		at    int
		code  api.Errno
		place int
	}{{1, api.ErrLabel, 1}, {2, api.ErrLabel, 2}, {4, api.ErrLabel, 4}, {7, api.ErrLabel, 7}, {10, api.ErrLabel, 10}, {14, api.ErrLabel, 14}, {16, api.ErrLabel, 16}, {19, api.ErrShort, 19}, {21, api.ErrShort, 21}, {22, api.ErrShort, 22}, {-1, api.ErrArg, noPlace}} {
		checkError(t, b, r.at, r.code, r.place)
	}
	checkPlaces(t, b)
}

func TestReadOfNothing(t *testing.T) {
	for _, b := range [][]byte{nil, {}, make([]byte, 0, 9), []byte{1, 'a', 0}[:0]} {
		for _, at := range []int{0, 1, 2, 9, 300, math.MaxInt32, math.MaxInt - 1, math.MaxInt} {
			checkError(t, b, at, api.ErrShort, at)
		}
		for _, at := range []int{-1, -2, -256, math.MinInt32, math.MinInt + 1, math.MinInt} {
			checkError(t, b, at, api.ErrArg, noPlace)
		}
	}
}

// Below 0, at the end and behind it, and where a place has no room for more.
func TestReadPlaces(t *testing.T) {
	for _, b := range [][]byte{{0}, {1, 'a', 0}, {192, 0}, make([]byte, 300)} {
		for _, at := range []int{len(b), len(b) + 1, len(b) + 2, 1_000, 65_536, math.MaxUint32, math.MaxUint32 + 1, math.MaxInt - 2, math.MaxInt - 1, math.MaxInt} {
			checkError(t, b, at, api.ErrShort, at)
		}
		for _, at := range []int{-1, -2, -3, -len(b), -math.MaxUint32 - 1, math.MinInt + 1, math.MinInt} {
			checkError(t, b, at, api.ErrArg, noPlace)
		}
	}
}

// A name cut at each byte: what is missing is the label that has begun, or the byte that comes next.
func TestReadCut(t *testing.T) {
	for _, lengths := range [][]int{{1}, {3}, {63}, {1, 1, 1}, {3, 7, 3}, {63, 63, 63, 61}, slices.Repeat([]int{1}, 127), {5, 1, 20, 2}} {
		whole := long([]byte{0}, lengths...)
		for _, ahead := range []int{0, 1, 300} {
			b := slices.Concat(make([]byte, ahead), whole)
			at, i := 0, 0
			for size := range whole {
				if i < len(lengths) && size == at+1+lengths[i] {
					at += 1 + lengths[i]
					i++
				}
				checkError(t, b[:ahead+size], ahead, api.ErrShort, ahead+at)
				checkError(t, bytes.Clone(b[:ahead+size]), ahead, api.ErrShort, ahead+at)
			}
			checkName(t, b, ahead, named(lengths...), len(b))
		}
	}
}

// The places of the cuts, by hand.
func TestReadCutByHand(t *testing.T) {
	b := []byte{9, 9, 3, 'w', 'w', 'w', 1, 'a', 192, 1}
	for size, place := range map[int]int{0: 2, 1: 2, 2: 2, 3: 2, 4: 2, 5: 2, 6: 6, 7: 6, 8: 8, 9: 8} {
		checkError(t, b[:size], 2, api.ErrShort, place)
	}
}

// Each first byte, with nothing, little and much behind it.
func TestReadFirstBytes(t *testing.T) {
	for n := range 256 {
		for _, size := range []int{0, 1, 2, 62, 63, 64, 300} {
			for _, fill := range []byte{0, 1, 'a', 'A', '.', ' ', 64, 191, 192, 255} {
				rest := append([]byte{byte(n)}, bytes.Repeat([]byte{fill}, size)...)
				for _, b := range [][]byte{rest, append(rest, 0)} {
					checkRead(t, b, 0)
					checkRead(t, append([]byte{1, 'a'}, b...), 0)
					checkRead(t, append([]byte{0}, b...), 1)
					if n >= 64 && n <= 191 {
						checkError(t, b, 0, api.ErrLabel, 0)
						checkError(t, append([]byte{1, 'a'}, b...), 0, api.ErrLabel, 2)
						checkError(t, slices.Concat([]byte{0, 1, 'b'}, b), 1, api.ErrLabel, 3)
					}
				}
			}
		}
	}
}

// Behind a pointer, too, the place is that of the byte that is wrong.
func TestReadBehindAPointer(t *testing.T) {
	for _, r := range []struct {
		b    []byte
		at   int
		code api.Errno
		from int
	}{
		{[]byte{7, 64, 192, 1}, 2, api.ErrLabel, 1},
		{[]byte{7, 1, 'a', 191, 1, 'b', 192, 1}, 4, api.ErrLabel, 3},
		{[]byte{1, '.', 192, 0}, 2, api.ErrLabel, 0},
		{[]byte{1, 'a', 2, 'x', ' ', 0, 192, 0}, 6, api.ErrLabel, 2},
		{[]byte{9, 'a', 192, 0}, 2, api.ErrShort, 0},
		{[]byte{1, 'a', 9, 'a', 192, 0}, 4, api.ErrShort, 2},
		{[]byte{3, 192, 0}, 1, api.ErrShort, 0},
		{[]byte{1, 192, 0}, 1, api.ErrLabel, 0},
		{[]byte{2, 'a', 'b', 192, 0}, 3, api.ErrPointer, 3},
		{[]byte{2, 'a', 'b', 1, 'c', 192, 3}, 3, api.ErrPointer, 5},
	} {
		checkError(t, r.b, r.at, r.code, r.from)
		checkRead(t, r.b, r.at)
	}
}

// Each letter in both sizes; nothing else of a name is made another.
func TestReadCapitals(t *testing.T) {
	checkName(t, []byte("\x03WwW\x07eXaMPLE\x03ORG\x00"), 0, "www.example.org", 17)
	checkName(t, []byte("\x1aABCDEFGHIJKLMNOPQRSTUVWXYZ\x00"), 0, "abcdefghijklmnopqrstuvwxyz", 28)
	checkName(t, []byte("\x04@[`{\x00"), 0, "@[`{", 6)
	checkName(t, []byte("\x02AZ\x00\x01B\xc0\x00"), 4, "b.az", 8)
	for n := 1; n < 64; n++ {
		name := named(n, 64-n)
		b := written(name)
		checkName(t, loud(b), 0, name, len(b))
		checkName(t, slices.Concat(b, loud(b)), len(b), name, 2*len(b))
	}
}

// loud: what is written, in capitals. (No length is a letter.)
func loud(b []byte) []byte {
	return bytes.ToUpper(b)
}

// A pointer's place counts by its lowest 14 bits, and a pointer is whatever begins with 192 or more.
func TestPointersToEachPlace(t *testing.T) {
	b := make([]byte, 16_500)
	for to := range 1 << 14 {
		first := byte(192 + to/256)
		name := string([]byte{letters[to%67], letters[to/67%67]})
		copy(b[to:], []byte{2, name[0], name[1], 0})
		at := to + 4
		copy(b[at:], []byte{first, byte(to % 256), 77})
		checkName(t, b, at, name, at+2)
		far := len(b) - 3
		copy(b[far:], []byte{1, 'f'})
		checkName(t, append(b[:far+2:far+2], first, byte(to%256)), far, "f."+name, far+4)
		clear(b[to : to+7])
		clear(b[far:])
	}
}

// A pointer that leads to itself, to where the name began, or to what is behind, does not lead back.
func TestPointersThatLeadNowhere(t *testing.T) {
	for at := range 600 {
		b := make([]byte, 700)
		for _, to := range []int{at, at + 1, at + 2, at + 3, at + 4, at + 50, at + 256, 699, 700, 701, 4_096, 16_383} {
			copy(b[at:], []byte{byte(192 + to/256), byte(to % 256)})
			checkError(t, b, at, api.ErrPointer, at)
			copy(b[at:], []byte{1, 'x', byte(192 + to/256), byte(to % 256)})
			checkError(t, b, at, api.ErrPointer, at+2)
		}
		if at == 0 {
			continue
		}
		for _, to := range []int{at - 1, at / 2, 0} {
			copy(b[at:], []byte{1, 'x', byte(192 + to/256), byte(to % 256)})
			checkName(t, b, at, "x", at+4)
		}
		clear(b[at:])
	}
}

// What counts is where the name began, not where the pointer stands: between them none may lead.
func TestPointersIntoTheSameName(t *testing.T) {
	b := append([]byte{0}, long([]byte{192, 0, 0}, 1, 2, 3)...)
	checkName(t, b, 1, named(1, 2, 3), 12)
	for to := 1; to < 20; to++ {
		b[11] = byte(to)
		checkError(t, b, 1, api.ErrPointer, 10)
	}
	// The same pointer leads back, if the name begins behind where it leads.
	b[11] = 1
	checkError(t, b, 3, api.ErrPointer, 10)
	b = []byte{0, 2, 'a', 'b', 0, 3, 'c', 'd', 'e', 192, 1}
	checkName(t, b, 5, "cde.ab", 11)
	checkName(t, b, 9, "ab", 11)
	checkRead(t, b, 2)
}

// A pointer to a place to which one led already, behind such a place, and below all of them.
func TestPointersOnFromAPointer(t *testing.T) {
	// At 0 a name; at 10 a pointer to wherever; at 20 one to 10.
	for to := range 40 {
		b := make([]byte, 40)
		copy(b, []byte{1, 'a', 1, 'b', 0})
		copy(b[10:], []byte{1, 'x', 192, byte(to)})
		copy(b[20:], []byte{1, 'y', 192, 10, 1, 'z'})
		switch {
		case to >= 10:
			checkError(t, b, 20, api.ErrPointer, 12)
		case to >= 4:
			checkName(t, b, 20, "y.x", 24)
		case to == 2:
			checkName(t, b, 20, "y.x.b", 24)
		case to == 0:
			checkName(t, b, 20, "y.x.a.b", 24)
		}
		checkPlaces(t, b)
	}
	// Three, each below the one ahead; then one that leads between two of them.
	b := []byte{0, 1, 'p', 192, 0, 1, 'q', 192, 1, 1, 'r', 192, 5, 1, 's', 192, 9}
	checkName(t, b, 13, "s.r.q.p", 17)
	for _, to := range []byte{1, 2, 3, 5, 9, 13} {
		b[4] = to
		checkError(t, b, 13, api.ErrPointer, 3)
		checkError(t, b, 5, api.ErrPointer, 3)
	}
	// Two that lead to each other, from either.
	b = []byte{192, 2, 192, 0, 1, 'a', 192, 0}
	checkError(t, b, 0, api.ErrPointer, 0)
	checkError(t, b, 2, api.ErrPointer, 0)
	checkError(t, b, 4, api.ErrPointer, 0)
}

// As many pointers as there is room for; the place is behind the first one.
func TestPointersOneBehindTheOther(t *testing.T) {
	b := []byte{0}
	for to := 0; to < 1<<14; to = len(b) - 2 {
		b = append(b, byte(192+to/256), byte(to%256))
		if len(b) == 3 {
			b[2] = 0
		}
	}
	checkName(t, b, len(b)-2, "", len(b))
	for at := 1; at < len(b); at += 2 {
		if at < 50 || at%500 == 1 {
			checkName(t, b, at, "", at+2)
		}
	}
}

// Of names that each have one label and go on in the one ahead: 127 are a name, 128 too many, which is told of the last one that was read.
func TestPointersToTooMuch(t *testing.T) {
	var b []byte
	places := []int{}
	for i := range 200 {
		places = append(places, len(b))
		b = append(b, 1, letters[i%len(letters)])
		if i == 0 {
			b = append(b, 0)
		} else {
			b = append(b, byte(192+places[i-1]/256), byte(places[i-1]%256))
		}
	}
	for i, at := range places {
		if i >= 127 {
			checkError(t, b, at, api.ErrName, places[i-127])
			continue
		}
		name := ""
		for j := i; j >= 0; j-- {
			name += "." + string([]byte{letters[j%len(letters)]})
		}
		end := at + 4
		if i == 0 {
			end = 3
		}
		checkName(t, b, at, name[1:], end)
	}
}

// A name that becomes too long behind a pointer alone, by one byte, and one that just does not.
func TestPointersToALongName(t *testing.T) {
	for n := 1; n < 64; n++ {
		b := long([]byte{0}, 63, 63, 63)
		at := len(b)
		b = append(append(append(b, byte(n)), labelOf(n)...), 192, 0)
		switch whole := n + 1 + 193; {
		case whole <= 255:
			checkName(t, b, at, labelOf(n)+"."+named(63, 63, 63), len(b))
		default:
			checkError(t, b, at, api.ErrName, 128)
		}
		b[len(b)-1] = 64
		checkName(t, b, at, labelOf(n)+"."+named(63, 63), len(b))
	}
	// Only pointers: each costs nothing.
	b := long([]byte{0, 192, 0, 192, 255, 193, 1}, 63, 63, 63, 61)
	for _, at := range []int{0, 255, 257, 259} {
		end := at + 2
		if at == 0 {
			end = 255
		}
		checkName(t, b, at, named(63, 63, 63, 61), end)
	}
	// A last label of one byte is too much, however far it is led.
	b = slices.Concat([]byte{1, 'x', 0}, long([]byte{192, 0, 192, 3}, 63, 63, 63, 61))
	checkError(t, b, 3, api.ErrName, 0)
	checkError(t, b, len(b)-2, api.ErrName, 0)
	b = slices.Concat([]byte{1, 'x', 0}, long([]byte{192, 0, 192, 3}, 63, 63, 63, 59))
	checkName(t, b, len(b)-2, named(63, 63, 63, 59)+".x", len(b))
	checkName(t, b, 3, named(63, 63, 63, 59)+".x", len(b)-2)
}

// A pointer of which the second byte is not there, whatever the first one is, and wherever.
func TestPointersCut(t *testing.T) {
	for first := 192; first < 256; first++ {
		for _, lengths := range [][]int{nil, {1}, {5, 7}, {63, 63, 63, 61}} {
			b := []byte{0}
			if lengths != nil {
				b = append(b, long(nil, lengths...)...)
			}
			b = append(b, byte(first))
			checkError(t, b, 1, api.ErrShort, len(b)-1)
			checkError(t, b, len(b)-1, api.ErrShort, len(b)-1)
			whole := append(bytes.Clone(b), 0)
			checkError(t, whole[:len(b)], 1, api.ErrShort, len(b)-1)
			if first == 192 {
				checkName(t, whole, 1, named(lengths...), len(whole))
			} else {
				checkError(t, whole, 1, api.ErrPointer, len(b)-1)
			}
		}
	}
}

// Where several things are wrong, the first of them counts: of one label, and of several.
func TestReadOrder(t *testing.T) {
	odd := bytes.Repeat([]byte{' '}, 63)
	for _, r := range []struct {
		b     []byte
		code  api.Errno
		place int
	}{
		{slices.Concat([]byte{63}, odd[:62]), api.ErrShort, 0},
		{slices.Concat([]byte{64}, odd[:5]), api.ErrLabel, 0},
		{long(slices.Concat([]byte{63}, odd), 63, 63, 63), api.ErrLabel, 192},
		{long(slices.Concat([]byte{63}, odd[:62]), 63, 63, 63), api.ErrShort, 192},
		{long([]byte{63}, 63, 63, 63), api.ErrShort, 192},
		{long([]byte{62}, 63, 63, 63), api.ErrShort, 192},
		{long(nil, 63, 63, 63, 61), api.ErrShort, 254},
		{long([]byte{1}, 63, 63, 63, 61), api.ErrShort, 254},
		{long([]byte{1, ' '}, 63, 63, 63, 61), api.ErrLabel, 254},
		{long([]byte{1, 'a'}, 63, 63, 63, 61), api.ErrName, 254},
		{long([]byte{64}, 63, 63, 63, 61), api.ErrLabel, 254},
		{long([]byte{192}, 63, 63, 63, 61), api.ErrShort, 254},
		{long([]byte{192, 0}, 63, 63, 63, 61), api.ErrPointer, 254},
		{[]byte{1, ' ', 64, 0}, api.ErrLabel, 0},
		{[]byte{1, 'a', 64, ' '}, api.ErrLabel, 2},
		{[]byte{1, 'a', 192, 0, 1, ' '}, api.ErrPointer, 2},
		{[]byte{1, ' ', 192, 0}, api.ErrLabel, 0},
		{[]byte{255}, api.ErrShort, 0},
		{[]byte{255, 255}, api.ErrPointer, 0},
	} {
		checkError(t, r.b, 0, r.code, r.place)
		checkRead(t, r.b, 0)
	}
	checkError(t, nil, -1, api.ErrArg, noPlace)
}

// Every list of up to six bytes of those that count, at each place.
func TestReadEveryShortList(t *testing.T) {
	set := []byte{0, 1, 2, 3, 'a', 'Z', '.', 192}
	for size := range 7 {
		b := make([]byte, size)
		for n := range 1 << (3 * size) {
			for i := range b {
				b[i] = set[n>>(3*i)&7]
			}
			for at := range size + 1 {
				want := expected(b, at)
				name, end, e := Read(b, at)
				if name != want.name || end != want.end || !is(e, want.code, want.place) {
					t.Fatalf("P12.2: Read of %v at %d: %q, %d, %v; want %+v", b, at, name, end, e, want)
				}
			}
		}
	}
}

// Lists that have many labels and pointers by chance.
func TestReadOfAnything(t *testing.T) {
	seed := uint32(12)
	kinds := [3]int{}
	for i := range 4_000 {
		m := random(&seed, 400)
		b := m[:int(m[399])]
		for j := range b {
			switch b[j] % 16 {
			case 0, 1:
				b[j] = 192
			case 2:
				b[j] = 0
			case 3, 4, 5:
				b[j] %= 8
			case 6:
			default:
				b[j] = letters[b[j]%67]
			}
		}
		for at := range len(b) {
			if i%8 == 0 || at%16 == i%16 {
				checkRead(t, b, at)
				kinds[min(int(expected(b, at).code), 2)]++
			}
		}
	}
	if kinds[0] < 1_000 || kinds[2] < 1_000 {
		t.Errorf("the tests' own lists have too few names, or too few errors: %v", kinds)
	}
	for range 3_000 {
		checkPlaces(t, random(&seed, 12))
	}
}

// Texts of any bytes, of few bytes, and of labels that nearly are some.
func TestRightOfAnything(t *testing.T) {
	seed := uint32(21)
	for range 20_000 {
		m := random(&seed, 300)
		checkWhether(t, string(m[:m[299]%6]))
		name := ""
		for _, c := range m[:m[298]] {
			if name += string([]byte{letters[c%67]}); c%32 < m[297]%8 {
				name += "."
			}
		}
		checkWhether(t, name)
		checkWhether(t, strings.TrimSuffix(name, "."))
		if l := Labels(name); !slices.Equal(l, between(name)) {
			t.Fatalf("P12.1: Labels(%q): %q", name, l)
		}
	}
}

// Every text of up to six bytes of those that count.
func TestRightOfEveryShortText(t *testing.T) {
	set := "a.~A"
	for size := range 7 {
		b := make([]byte, size)
		for n := range 1 << (2 * size) {
			for i := range b {
				b[i] = set[n>>(2*i)&3]
			}
			s := string(b)
			checkWhether(t, s)
			if l := Labels(s); !slices.Equal(l, between(s)) {
				t.Fatalf("P12.1: Labels(%q): %q", s, l)
			}
			for at := range size + 1 {
				ends := at == 0 || at == size || s[at-1] == '.'
				if Under(s, s[at:]) != ends {
					t.Fatalf("P12.1: Under(%q, %q): %v", s, s[at:], !ends)
				}
			}
		}
	}
}

// What is written is read, wherever it stands, in capitals, too, and by a pointer.
func TestWhatIsWrittenIsRead(t *testing.T) {
	for _, name := range []string{"", "a", "a.b", "www.example.org", "_dns.x-1.*", named(63), named(63, 63, 63, 61), named(slices.Repeat([]int{1}, 127)...), named(5, 10, 15, 20)} {
		b, e := Write(name)
		if e != nil {
			t.Fatalf("P12.1: Write(%q): %v", name, e)
		}
		for _, ahead := range []int{0, 1, 2, 12, 63, 64, 191, 192, 255, 256, 4_000, 16_383} {
			for _, fill := range []byte{0, 1, 'a', 64, 192, 255} {
				for _, w := range [][]byte{b, loud(b)} {
					m := slices.Concat(bytes.Repeat([]byte{fill}, ahead), w)
					checkName(t, m, ahead, name, len(m))
					m = append(m, bytes.Repeat([]byte{fill}, 9)...)
					checkName(t, m, ahead, name, ahead+len(w))
					m = append(m, byte(192+ahead/256), byte(ahead%256), 5)
					checkName(t, m, len(m)-3, name, len(m)-1)
				}
			}
		}
	}
}

// What stands in the room behind the end is not read, and not written on.
func TestReadRoomBehindTheEnd(t *testing.T) {
	whole := []byte("\x03www\x07example\x03org\x00\xc0\x04\x01a\xc0\x0c")
	for size := range len(whole) + 1 {
		b := bytes.Clone(whole)
		for at := range len(whole) + 2 {
			w := expected(bytes.Clone(whole[:size]), at)
			name, end, e := Read(b[:size], at)
			if name != w.name || end != w.end || !is(e, w.code, w.place) {
				t.Fatalf("P12.2: Read of %d bytes at %d: %q, %d, %v; want %+v", size, at, name, end, e, w)
			}
		}
		if !bytes.Equal(b, whole) {
			t.Fatalf("R3: Read of %d bytes wrote behind their end", size)
		}
	}
}

// fill: what stands in b, and in the room behind its end, is another.
func fill(b []byte, v byte) {
	b = b[:cap(b)]
	for i := range b {
		b[i] = v
	}
}

func TestAnswersAreNew(t *testing.T) {
	for _, name := range []string{"", "a", "www.example.org", named(63, 63, 63, 61)} {
		held, _ := Write(name)
		next, _ := Write(name)
		fill(next, 'x')
		if !bytes.Equal(held, written(name)) {
			t.Errorf("R3: who writes into one answer of Write changes another: %v", bytesOf(held))
		}
		checkRight(t, name)
		labels, others := Labels(name), Labels(name)
		others = others[:cap(others)]
		clear(others)
		if !slices.Equal(labels, between(name)) {
			t.Errorf("R3: who writes into one answer of Labels changes another: %q", labels)
		}
		b := written(name)
		got, _, _ := Read(b, 0)
		fill(b, 'x')
		if got != name {
			t.Errorf("R3: who writes into what Read was given changes what it answered: %q", got)
		}
	}
}

func TestErrorsAreNew(t *testing.T) {
	for _, b := range [][]byte{nil, {64}, {1, 'a'}, {2, 'a'}, {1, ' ', 0}, {192}, {192, 0}, {1, 'a', 200, 0}, long([]byte{0}, 63, 63, 63, 63)} {
		w := expected(b, 0)
		_, _, held := Read(b, 0)
		_, _, next := Read(b, 0)
		var f *api.Fault
		if !errors.As(next, &f) {
			t.Fatalf("R4: %v: no place in it", next)
		}
		f.At, f.Err = 77, api.ErrBig
		if !is(held, w.code, w.place) {
			t.Errorf("R3: who writes into one error changes another: %v", held)
		}
		checkError(t, b, 0, w.code, w.place)
	}
}

func TestAnswersHangOnArgumentsAlone(t *testing.T) {
	b := []byte{2, 'A', 'b', 1, 'c', 0, 192, 3, 192, 8}
	for range 3 {
		for at := len(b) + 2; at >= -2; at-- {
			checkRead(t, b, at)
			checkNone(t, "a..b")
			checkRight(t, "ab.c")
			checkError(t, nil, at, expected(nil, at).code, expected(nil, at).place)
		}
		checkPlaces(t, b)
	}
}
