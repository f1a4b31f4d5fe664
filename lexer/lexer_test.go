package lexer

import (
	"errors"
	"fmt"
	"slices"
	"strings"
	"testing"

	"stockade/api"
	"stockade/fault"
)

// most: how many bytes a policy may have, written out.
const most = 20_000

// noPlace: of an error that says none.
const noPlace = -1

// is tells whether e is an error of that number at that place; of 0 whether there is none.
func is(e error, code api.Errno, at int) bool {
	if code == 0 {
		return e == nil
	}
	var n api.Errno
	var f *api.Fault
	if !errors.Is(e, code) || !errors.As(e, &n) || n != code {
		return false
	}
	if !errors.As(e, &f) {
		return at == noPlace
	}
	return f != nil && f.At == at
}

// outer: an error of somebody else's, with another one in it.
type outer struct{ error }

func (o outer) Unwrap() error { return o.error }

// wordAt, lineAt: a token of that kind.
func wordAt(at, row int, text string) api.Token {
	return api.Token{Kind: api.Word, At: at, Row: row, Text: text}
}

func lineAt(at, row int) api.Token {
	return api.Token{Kind: api.Line, At: at, Row: row}
}

// list: tokens, as one.
func list(l ...api.Token) []api.Token { return l }

// few: of a text as it stands in a test's message, the first bytes.
func few(s string) string { return fmt.Sprintf("%q", s[:min(len(s), 60)]) }

// checkTokens: are these the tokens of s?
func checkTokens(t *testing.T, s string, want ...api.Token) {
	t.Helper()
	for range 2 { // it hangs on nothing that was asked ahead
		got, e := Tokens(s)
		if e != nil || !slices.Equal(got, want) {
			t.Fatalf("P18.1: Tokens(%s): %v, %v; want %v", few(s), got, e, want)
		}
	}
}

// checkError: is that what Tokens answers of s, at that place, and no token with it?
func checkError(t *testing.T, s string, code api.Errno, at int) {
	t.Helper()
	for range 2 {
		got, e := Tokens(s)
		if got != nil || !is(e, code, at) || !is(outer{e}, code, at) {
			t.Fatalf("P18.1: Tokens(%s): %v, %v; want %d at %d", few(s), got, e, code, at)
		}
	}
}

// What the promise says of a byte: it is passed over, a Line, of a word, or may not be.
const (
	passed = iota
	lineEnd
	ofWord
	mayNot
)

// remarked tells of each byte of s whether it is of a remark: whether a "#" is in its line, no further on than it.
func remarked(s string) []bool {
	l := make([]bool, len(s))
	for i := range len(s) {
		from := strings.LastIndexByte(s[:i], 10) + 1
		l[i] = s[i] != 10 && strings.IndexByte(s[from:i+1], '#') >= 0
	}
	return l
}

// classes: of each byte of s what the promise says of it.
func classes(s string) []int {
	remark := remarked(s)
	l := make([]int, len(s))
	for i := range len(s) {
		switch c := s[i]; {
		case remark[i], c == 9, c == 13, c == 32:
			l[i] = passed
		case c == 10:
			l[i] = lineEnd
		case 33 <= c && c <= 126:
			l[i] = ofWord
		default:
			l[i] = mayNot
		}
	}
	return l
}

// model: what the promise says of s, told of each byte by itself; the last result is where one may not be, or below 0.
func model(s string) ([]api.Token, int) {
	l := classes(s)
	if at := slices.Index(l, mayNot); at >= 0 {
		return nil, at
	}
	var all []api.Token
	for i, k := range l {
		row := 1 + strings.Count(s[:i], "\n")
		switch {
		case k == lineEnd:
			all = append(all, lineAt(i, row))
		case k == ofWord && i > 0 && l[i-1] == ofWord:
			all[len(all)-1].Text += s[i : i+1]
		case k == ofWord:
			all = append(all, wordAt(i, row, s[i:i+1]))
		}
	}
	return append(all, lineAt(len(s), 1+strings.Count(s, "\n"))), -1
}

// checkModel: does Tokens answer of s what the model does?
func checkModel(t *testing.T, s string) {
	t.Helper()
	want, at := model(s)
	if at >= 0 {
		checkError(t, s, api.ErrByte, at)
		return
	}
	checkTokens(t, s, want...)
}

func TestExample(t *testing.T) {
	checkTokens(t, "a b", wordAt(0, 1, "a"), wordAt(2, 1, "b"), lineAt(3, 1))
}

func TestNumbers(t *testing.T) {
	if api.MaxPolicy != most || api.Word != 1 || api.Line != 2 {
		t.Fatal("the tests' own numbers are other ones")
	}
}

func TestNothing(t *testing.T) {
	checkTokens(t, "", lineAt(0, 1))
}

func TestBlanks(t *testing.T) {
	for _, s := range []string{" ", "\t", "\r", "  ", "\t\t", "\r\r", " \t", "\t\r", "\r ", " \t\r", "\r\t \t\r", strings.Repeat(" \t\r", 200)} {
		checkTokens(t, s, lineAt(len(s), 1))
	}
	// A byte 13 ends no line, with a byte 10 behind it or not.
	checkTokens(t, "a\rb", wordAt(0, 1, "a"), wordAt(2, 1, "b"), lineAt(3, 1))
	checkTokens(t, "a\r\nb\r\n", wordAt(0, 1, "a"), lineAt(2, 1), wordAt(3, 2, "b"), lineAt(5, 2), lineAt(6, 3))
	checkTokens(t, "a\n\rb", wordAt(0, 1, "a"), lineAt(1, 1), wordAt(3, 2, "b"), lineAt(4, 2))
}

func TestWords(t *testing.T) {
	checkTokens(t, "a", wordAt(0, 1, "a"), lineAt(1, 1))
	checkTokens(t, "allow", wordAt(0, 1, "allow"), lineAt(5, 1))
	checkTokens(t, "allow name *.a.b tcp 443", wordAt(0, 1, "allow"), wordAt(6, 1, "name"), wordAt(11, 1, "*.a.b"), wordAt(17, 1, "tcp"), wordAt(21, 1, "443"), lineAt(24, 1))
	checkTokens(t, " a", wordAt(1, 1, "a"), lineAt(2, 1))
	checkTokens(t, "a ", wordAt(0, 1, "a"), lineAt(2, 1))
	checkTokens(t, "\t ab\r ", wordAt(2, 1, "ab"), lineAt(6, 1))
	// Capitals stay as they are, and so does all else that a word may have.
	checkTokens(t, "ALLOW Any", wordAt(0, 1, "ALLOW"), wordAt(6, 1, "Any"), lineAt(9, 1))
	checkTokens(t, "\"a'b\"`\\n", wordAt(0, 1, "\"a'b\"`\\n"), lineAt(8, 1))
	checkTokens(t, "2001:db8::/32 1-65535 *", wordAt(0, 1, "2001:db8::/32"), wordAt(14, 1, "1-65535"), wordAt(22, 1, "*"), lineAt(23, 1))
	for _, blanks := range []string{" ", "\t", "\r", "  ", " \t", "\r \t", strings.Repeat(" ", 300)} {
		n := len(blanks)
		checkTokens(t, "ab"+blanks+"c"+blanks+"def", wordAt(0, 1, "ab"), wordAt(2+n, 1, "c"), wordAt(3+2*n, 1, "def"), lineAt(6+2*n, 1))
		checkTokens(t, blanks+"ab"+blanks, wordAt(n, 1, "ab"), lineAt(2+2*n, 1))
	}
}

func TestEachByte(t *testing.T) {
	for i := range 256 {
		s := string([]byte{byte(i)})
		switch {
		case i == 10:
			checkTokens(t, s, lineAt(0, 1), lineAt(1, 2))
			checkTokens(t, "a"+s+"b", wordAt(0, 1, "a"), lineAt(1, 1), wordAt(2, 2, "b"), lineAt(3, 2))
			checkTokens(t, "a "+s+" b", wordAt(0, 1, "a"), lineAt(2, 1), wordAt(4, 2, "b"), lineAt(5, 2))
		case i == 9, i == 13, i == 32:
			checkTokens(t, s, lineAt(1, 1))
			checkTokens(t, "a"+s+"b", wordAt(0, 1, "a"), wordAt(2, 1, "b"), lineAt(3, 1))
			checkTokens(t, "a "+s+" b", wordAt(0, 1, "a"), wordAt(4, 1, "b"), lineAt(5, 1))
		case i == '#':
			checkTokens(t, s, lineAt(1, 1))
			checkTokens(t, "a"+s+"b", wordAt(0, 1, "a"), lineAt(3, 1))
			checkTokens(t, "a "+s+" b", wordAt(0, 1, "a"), lineAt(5, 1))
		case i >= 33 && i <= 126:
			checkTokens(t, s, wordAt(0, 1, s), lineAt(1, 1))
			checkTokens(t, "a"+s+"b", wordAt(0, 1, "a"+s+"b"), lineAt(3, 1))
			checkTokens(t, "a "+s+" b", wordAt(0, 1, "a"), wordAt(2, 1, s), wordAt(4, 1, "b"), lineAt(5, 1))
		default:
			checkError(t, s, api.ErrByte, 0)
			checkError(t, "a"+s+"b", api.ErrByte, 1)
			checkError(t, "a "+s+" b", api.ErrByte, 2)
			checkError(t, "a\n"+s, api.ErrByte, 2)
			checkError(t, "#\n"+s, api.ErrByte, 2)
		}
		// Behind "#" each may be; a byte 10 ends what is passed over.
		if i == 10 {
			checkTokens(t, "#"+s, lineAt(1, 1), lineAt(2, 2))
			checkTokens(t, "a#"+s+"b", wordAt(0, 1, "a"), lineAt(2, 1), wordAt(3, 2, "b"), lineAt(4, 2))
			continue
		}
		checkTokens(t, "#"+s, lineAt(2, 1))
		checkTokens(t, "a#"+s+"b", wordAt(0, 1, "a"), lineAt(4, 1))
		checkTokens(t, "a #c"+s+" b\nd", wordAt(0, 1, "a"), lineAt(7, 1), wordAt(8, 2, "d"), lineAt(9, 2))
	}
}

func TestOneWordOfAllBytes(t *testing.T) {
	var b []byte
	for c := byte(33); c <= 126; c++ {
		if c != '#' {
			b = append(b, c)
		}
	}
	checkTokens(t, string(b), wordAt(0, 1, string(b)), lineAt(93, 1))
}

func TestRemarks(t *testing.T) {
	checkTokens(t, "#", lineAt(1, 1))
	checkTokens(t, "##", lineAt(2, 1))
	checkTokens(t, "a#", wordAt(0, 1, "a"), lineAt(2, 1))
	checkTokens(t, "a #", wordAt(0, 1, "a"), lineAt(3, 1))
	checkTokens(t, "#a", lineAt(2, 1))
	checkTokens(t, "# a b", lineAt(5, 1))
	checkTokens(t, "ab#cd ef", wordAt(0, 1, "ab"), lineAt(8, 1))
	checkTokens(t, "ab #cd# ef#", wordAt(0, 1, "ab"), lineAt(11, 1))
	checkTokens(t, "ab cd # ef\ngh # ij", wordAt(0, 1, "ab"), wordAt(3, 1, "cd"), lineAt(10, 1), wordAt(11, 2, "gh"), lineAt(18, 2))
	// It goes on to the next byte 10, past a byte 13, and what stands for an end of a line elsewhere.
	checkTokens(t, "#a\rb\nc", lineAt(4, 1), wordAt(5, 2, "c"), lineAt(6, 2))
	checkTokens(t, "#a\u2028b\x0b\x0c\u0085c\nd", lineAt(11, 1), wordAt(12, 2, "d"), lineAt(13, 2))
	checkTokens(t, "#\x00\x01\x7f\x80\xff\xc3é\U0001f512\n!", lineAt(13, 1), wordAt(14, 2, "!"), lineAt(15, 2))
	checkTokens(t, "a#\x00\xff", wordAt(0, 1, "a"), lineAt(4, 1))
	// The remark of one line is none of the next.
	checkError(t, "#\x00\n\x00", api.ErrByte, 3)
	checkError(t, "a\x00#", api.ErrByte, 1)
	checkError(t, "\x00#", api.ErrByte, 0)
	checkTokens(t, "#"+strings.Repeat("#\xff", 400), lineAt(801, 1))
}

func TestLines(t *testing.T) {
	checkTokens(t, "\n", lineAt(0, 1), lineAt(1, 2))
	checkTokens(t, "\n\n\n", lineAt(0, 1), lineAt(1, 2), lineAt(2, 3), lineAt(3, 4))
	checkTokens(t, "\na", lineAt(0, 1), wordAt(1, 2, "a"), lineAt(2, 2))
	checkTokens(t, "a\n", wordAt(0, 1, "a"), lineAt(1, 1), lineAt(2, 2))
	checkTokens(t, "a\nb", wordAt(0, 1, "a"), lineAt(1, 1), wordAt(2, 2, "b"), lineAt(3, 2))
	checkTokens(t, "a\n\n\nb", wordAt(0, 1, "a"), lineAt(1, 1), lineAt(2, 2), lineAt(3, 3), wordAt(4, 4, "b"), lineAt(5, 4))
	checkTokens(t, "a\n \n b \n", wordAt(0, 1, "a"), lineAt(1, 1), lineAt(3, 2), wordAt(5, 3, "b"), lineAt(7, 3), lineAt(8, 4))
	checkTokens(t, "\n#\n", lineAt(0, 1), lineAt(2, 2), lineAt(3, 3))
	checkTokens(t, "#\n#", lineAt(1, 1), lineAt(3, 2))
	checkTokens(t, "#\n\n#a\n", lineAt(1, 1), lineAt(2, 2), lineAt(5, 3), lineAt(6, 4))
	// Many of them: as many rows as there are bytes 10, and one more.
	got, e := Tokens(strings.Repeat("\n", most))
	if e != nil || len(got) != most+1 {
		t.Fatalf("P18.1: Tokens of %d bytes 10: %d, %v; want %d", most, len(got), e, most+1)
	}
	for i, x := range got {
		if x != lineAt(i, i+1) {
			t.Fatalf("P18.1: Tokens of %d bytes 10: the one at %d is %v; want %v", most, i, x, lineAt(i, i+1))
		}
	}
}

func TestBytesThatMayNot(t *testing.T) {
	for _, r := range []struct {
		s  string
		at int
	}{
		{"\x00", 0}, {"\x00\x01", 0}, {"a\x01b\x00", 1}, {" \x00", 1}, {"\n\n\x1f", 2}, {"ab \x7f", 3}, {"ab\x7f", 2},
		{"é", 0}, {"aé", 1}, {"a é b \x00", 2}, {"\ufeffallow", 0}, {"a\u00a0b", 1}, {"a\u2028b", 1}, {"a\xff", 1}, {"a\x80", 1},
		{"a\vb", 1}, {"a\fb", 1}, {"allow net 10.0.0.0/8 any *\nallow net\x00", 36}, {"# \x00\n \x08#\x00", 5},
	} {
		checkError(t, r.s, api.ErrByte, r.at)
	}
}

func TestBig(t *testing.T) {
	blanks := strings.Repeat(" ", most)
	checkTokens(t, blanks, lineAt(most, 1))
	checkTokens(t, blanks[1:], lineAt(most-1, 1))
	whole := strings.Repeat("a", most)
	checkTokens(t, whole, wordAt(0, 1, whole), lineAt(most, 1))
	checkTokens(t, "#"+whole[1:], lineAt(most, 1))
	checkModel(t, strings.Repeat("a ", most/2))
	checkError(t, blanks[1:]+"\x00", api.ErrByte, most-1)
	for _, s := range []string{blanks + " ", whole + "a", whole + "\n", "#" + whole, strings.Repeat("\n", most+1), blanks + whole} {
		checkError(t, s, api.ErrBig, noPlace)
	}
	// The first error named counts, wherever a byte is that may not be.
	for _, s := range []string{strings.Repeat("\x00", most+1), "\x00" + whole, whole + "\x00", whole[1:] + "\x00a"} {
		checkError(t, s, api.ErrBig, noPlace)
	}
}

// All texts of up to five bytes, of one of each kind and those beside them.
func TestAllShort(t *testing.T) {
	kinds := []byte{' ', '\n', '#', 'a', 0x7f, '~', '\r'}
	texts := []string{""}
	for range 5 {
		var longer []string
		for _, s := range texts {
			checkModel(t, s)
			for _, c := range kinds {
				longer = append(longer, s+string([]byte{c}))
			}
		}
		texts = longer
	}
	for _, s := range texts {
		checkModel(t, s)
	}
}

// Texts of bytes as they come, ever the same ones: of all bytes, and of those that may be.
func TestMany(t *testing.T) {
	seed := uint32(1)
	next := func(n int) int {
		seed = seed*1_664_525 + 1_013_904_223
		return int(seed>>8) % n
	}
	const plain = "\t\r  \n\n##ab.*0-9!~/:"
	for range 4_000 {
		b := make([]byte, next(60))
		for i := range b {
			b[i] = plain[next(len(plain))]
			if next(40) == 0 {
				b[i] = byte(next(256))
			}
		}
		checkModel(t, string(b))
	}
}

// What follows: words have no blanks in them; and no "#", and each is as long as it may be.
func TestWhatFollows(t *testing.T) {
	s := "resolver 10.0.0.1 # ours\nallow\tname *.a.b tcp 443\r\n\n#\n deny net ::/0 any *#all"
	l, e := Tokens(s)
	if e != nil {
		t.Fatalf("P18.1: Tokens(%s): %v", few(s), e)
	}
	var words []string
	for _, x := range l {
		if x.Kind != api.Word {
			continue
		}
		words = append(words, x.Text)
		if x.Text == "" || strings.ContainsAny(x.Text, " \t\r\n#") || s[x.At:x.At+len(x.Text)] != x.Text {
			t.Errorf("P18.1: the word %v is not what stands there", x)
		}
	}
	want := strings.Fields("resolver 10.0.0.1 allow name *.a.b tcp 443 deny net ::/0 any *")
	if !slices.Equal(words, want) {
		t.Errorf("P18.1: the words of %s: %q; want %q", few(s), words, want)
	}
}

// R3: what is handed in stays, and who writes into what is handed out turns nothing else.
func TestMemory(t *testing.T) {
	const text = "a b\n#c\nd"
	b := []byte(text)
	s := string(b)
	first, _ := Tokens(s)
	second, _ := Tokens(s)
	for i := range first[:cap(first)] {
		first[:cap(first)][i] = wordAt(99, 99, "x")
	}
	want := list(wordAt(0, 1, "a"), wordAt(2, 1, "b"), lineAt(3, 1), lineAt(6, 2), wordAt(7, 3, "d"), lineAt(8, 3))
	if !slices.Equal(second, want) || s != text {
		t.Errorf("R3: behind a writing into other tokens: %v of %q; want %v", second, s, want)
	}
	checkTokens(t, s, want...)
}

// R4: where the error is, and what it is, is found through package fault, too, and counted from further out.
func TestErrors(t *testing.T) {
	_, e := Tokens("ab\x00")
	if at, is := fault.Place(e); at != 2 || !is || fault.Code(e) != api.ErrByte {
		t.Errorf("R4: the error of a byte that may not be: %v at %d, %v; want %v at 2", fault.Code(e), at, is, api.ErrByte)
	}
	if at, _ := fault.Place(fault.Deeper(10, e)); at != 12 {
		t.Errorf("R4: the same, 10 deeper: at %d; want 12", at)
	}
	_, e = Tokens(strings.Repeat("a", most+1))
	if at, is := fault.Place(e); at != 0 || is || fault.Code(e) != api.ErrBig {
		t.Errorf("R4: the error of too much: %v at %d, %v; want %v at no place", fault.Code(e), at, is, api.ErrBig)
	}
}
