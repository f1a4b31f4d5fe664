package rule

import (
	"errors"
	"fmt"
	"math"
	"regexp"
	"slices"
	"strconv"
	"strings"
	"testing"

	"stockade/addr"
	"stockade/api"
	"stockade/fault"
	"stockade/lexer"
	"stockade/name"
)

// How many there may be, written out.
const (
	mostServers = 20
	mostRules   = 200
	mostPorts   = 65_535
	mostName    = 253 // bytes of a pattern: as it is written it has two more
)

// outer: an error of somebody else's, with another one in it.
type outer struct{ error }

func (o outer) Unwrap() error { return o.error }

// is tells whether e is an error of that number at that place; of 0 whether there is none.
func is(e error, code api.Errno, at int) bool {
	if code == 0 {
		return e == nil
	}
	var n api.Errno
	var f *api.Fault
	if !errors.Is(e, code) || !errors.As(e, &n) || n != code {
		return false
	}
	return errors.As(e, &f) && f != nil && f.At == at
}

// wordAt, lineAt: a token of that kind.
func wordAt(at int, text string) api.Token {
	return api.Token{Kind: api.Word, At: at, Row: 1, Text: text}
}

func lineAt(at int) api.Token {
	return api.Token{Kind: api.Line, At: at, Row: 1}
}

// lineOf: a word each ten places from that one on, and the end of the line behind them.
func lineOf(from int, words ...string) []api.Token {
	var l []api.Token
	for i, w := range words {
		l = append(l, wordAt(from+10*i, w))
	}
	return append(l, lineAt(from+10*len(words)))
}

// address, prefix: of their text, which must be right.
func address(t *testing.T, s string) api.Addr {
	t.Helper()
	a, e := addr.Parse(s)
	if e != nil {
		t.Fatalf("the test's own address %q: %v", s, e)
	}
	return a
}

func prefix(t *testing.T, s string) api.Prefix {
	t.Helper()
	p, e := addr.ParseNet(s)
	if e != nil {
		t.Fatalf("the test's own net %q: %v", s, e)
	}
	return p
}

// same: are both the same, list by list?
func same(a, b api.Rules) bool {
	return slices.Equal(a.Servers, b.Servers) && slices.Equal(a.Rules, b.Rules)
}

// few: of what stands in a test's message, the first bytes.
func few(v any) string {
	s := fmt.Sprintf("%+v", v)
	return s[:min(len(s), 300)]
}

// checkParse: does Parse tell that of l, and leave l as it was?
func checkParse(t *testing.T, l []api.Token, want api.Rules) {
	t.Helper()
	before := slices.Clone(l)
	for range 2 { // it hangs on nothing that was asked ahead
		got, e := Parse(l)
		if e != nil || !same(got, want) {
			t.Fatalf("P19.1: Parse(%s): %s, %v; want %s", few(l), few(got), e, few(want))
		}
	}
	if !slices.Equal(l, before) {
		t.Fatalf("R3: Parse turned %s into %s", few(before), few(l))
	}
}

// checkError: is that what Parse answers of l, at that place, and nothing with it?
func checkError(t *testing.T, l []api.Token, code api.Errno, at int) {
	t.Helper()
	before := slices.Clone(l)
	for range 2 {
		got, e := Parse(l)
		if !is(e, code, at) || !is(outer{e}, code, at) || len(got.Servers) > 0 || len(got.Rules) > 0 {
			t.Fatalf("P19.1: Parse(%s): %s, %v; want %d at %d", few(l), few(got), e, code, at)
		}
	}
	if !slices.Equal(l, before) {
		t.Fatalf("R3: Parse turned %s into %s", few(before), few(l))
	}
}

// checkLine: does a line of these words tell that rule, with and without an end?
func checkLine(t *testing.T, want api.Rule, words ...string) {
	t.Helper()
	l := lineOf(7, words...)
	checkParse(t, l, api.Rules{Rules: []api.Rule{want}})
	checkParse(t, l[:len(words)], api.Rules{Rules: []api.Rule{want}})
}

// checkWrong: is that what is wrong with the word of that number in such a line, behind another line, and ahead of one?
func checkWrong(t *testing.T, code api.Errno, number int, words ...string) {
	t.Helper()
	l := slices.Concat(lineOf(3, "resolver", "7.7.7.7"), lineOf(1_007, words...), lineOf(2_003, "x"))
	checkError(t, l, code, 1_007+10*number)
}

// checkRight: may that be, is its text that, and does the text, line by line, tell it again?
func checkRight(t *testing.T, r api.Rules, text string) {
	t.Helper()
	before := api.Rules{Servers: slices.Clone(r.Servers), Rules: slices.Clone(r.Rules)}
	for range 2 {
		if !Right(r) || Text(r) != text {
			t.Fatalf("P19.2: Right of %s: %v, Text: %q; want true, %q", few(r), Right(r), few(Text(r)), few(text))
		}
	}
	if !same(r, before) {
		t.Fatalf("R3: %s was turned into %s", few(before), few(r))
	}
	if got, e := Parse(lexed(t, text)); e != nil || !same(got, r) {
		t.Fatalf("P19.2: Parse of the text of %s: %s, %v", few(r), few(got), e)
	}
}

// checkNot: may that not be, and has it no text?
func checkNot(t *testing.T, r api.Rules) {
	t.Helper()
	for range 2 {
		if Right(r) || Text(r) != "" {
			t.Fatalf("P19.2: Right of %s: %v, Text: %q; want false, \"\"", few(r), Right(r), few(Text(r)))
		}
	}
}

// lexed: the tokens of a text of whole lines, each by itself, as all may be more than a policy's text.
func lexed(t *testing.T, text string) []api.Token {
	t.Helper()
	var all []api.Token
	for _, s := range strings.SplitAfter(text, "\n") {
		l, e := lexer.Tokens(s)
		if e != nil {
			t.Fatalf("P19.2: Tokens(%q): %v", s, e)
		}
		all = append(all, l...)
	}
	return all
}

// one: rules of that one alone.
func one(r api.Rule) api.Rules { return api.Rules{Rules: []api.Rule{r}} }

// turned: r, turned by that.
func turned(r api.Rule, turn func(r *api.Rule)) api.Rule {
	turn(&r)
	return r
}

// nameRule: of a name, all ports of TCP.
func nameRule(host string, wild bool) api.Rule {
	return api.Rule{Name: host, Wild: wild, Proto: api.Tcp, High: mostPorts}
}

// longName: a name of so many bytes, 4 at least, of labels of up to 63.
func longName(n int) string {
	s := ""
	for n-len(s) > 64 {
		s += strings.Repeat("a", 49) + "."
	}
	return s + strings.Repeat("b", n-len(s))
}

// numbered: servers that are all others, so many.
func numbered(n int) []api.Addr {
	l := make([]api.Addr, n)
	for i := range l {
		l[i].B = [16]byte{10, 0, byte(i >> 8), byte(i)}
	}
	return l
}

// resolvers: a line of each of so many servers, as numbered has them; each begins at a hundred.
func resolvers(n int) []api.Token {
	var l []api.Token
	for i := range n {
		l = append(l, lineOf(100*i, "resolver", fmt.Sprintf("10.0.%d.%d", i>>8, i&255))...)
	}
	return l
}

// denials: a line of each of so many rules, and these rules; each begins at a hundred.
func denials(t *testing.T, n int) ([]api.Token, []api.Rule) {
	t.Helper()
	var l []api.Token
	var rules []api.Rule
	for i := range n {
		l = append(l, lineOf(100*i, "deny", "net", "10.0.0.0/8", "udp", strconv.Itoa(i))...)
		rules = append(rules, api.Rule{Net: prefix(t, "10.0.0.0/8"), Proto: api.Udp, Low: i, High: i})
	}
	return l, rules
}

func TestNumbers(t *testing.T) {
	if api.MaxServers != mostServers || api.MaxRules != mostRules || api.MaxName != mostName+2 || api.Word != 1 || api.Line != 2 || api.Tcp != 6 || api.Udp != 17 || api.Icmp != 1 || api.Any != 256 {
		t.Fatal("the tests' own numbers are other ones")
	}
}

func TestExample(t *testing.T) {
	want := api.Rule{Allow: true, Name: "a.b", Wild: true, Proto: 6, Low: 443, High: 443}
	l, e := lexer.Tokens("allow name *.a.b tcp 443")
	if e != nil {
		t.Fatal(e)
	}
	checkParse(t, l, one(want))
	checkRight(t, one(want), "allow name *.a.b tcp 443\n")
}

func TestNothing(t *testing.T) {
	checkParse(t, nil, api.Rules{})
	checkParse(t, []api.Token{}, api.Rules{})
	checkRight(t, api.Rules{}, "")
	checkRight(t, api.Rules{Servers: []api.Addr{}, Rules: []api.Rule{}}, "")
	if r, _ := Parse(nil); r.Servers != nil || r.Rules != nil {
		t.Errorf("P19.1: Parse(nil): %v", r)
	}
}

func TestLinesWithoutWords(t *testing.T) {
	checkParse(t, []api.Token{lineAt(0)}, api.Rules{})
	checkParse(t, []api.Token{lineAt(5), lineAt(-6), lineAt(math.MaxInt)}, api.Rules{})
	all := lineOf(0, "allow", "name", "a", "udp", "53")
	more := lineOf(100, "resolver", "::1")
	want := api.Rules{Servers: []api.Addr{address(t, "::1")}, Rules: []api.Rule{{Allow: true, Name: "a", Proto: 17, Low: 53, High: 53}}}
	none := []api.Token{lineAt(50), lineAt(51)}
	checkParse(t, slices.Concat(none, all, more), want)
	checkParse(t, slices.Concat(all, none, more), want)
	checkParse(t, slices.Concat(all, more, none), want)
	checkParse(t, slices.Concat(none, all, none, more, none), want)
	checkParse(t, slices.Concat(none, all, none, more[:2]), want)
	// What is wrong behind them is told where it is.
	checkError(t, slices.Concat(none, all, none, lineOf(300, "x")), api.ErrWord, 300)
	checkError(t, slices.Concat(none, lineOf(300, "allow"), none), api.ErrWord, 310)
}

// The words behind the last Line are a line that ends at 0.
func TestBehindTheLastLine(t *testing.T) {
	words := []string{"allow", "net", "::/0", "any", "*"}
	want := api.Rule{Allow: true, Net: prefix(t, "::/0"), Proto: 256, High: mostPorts}
	for n := 1; n <= len(words); n++ {
		l := slices.Concat(lineOf(5, "resolver", "1.1.1.1"), lineOf(200, words[:n]...))
		open := l[:len(l)-1]
		if n == len(words) {
			all := api.Rules{Servers: []api.Addr{address(t, "1.1.1.1")}, Rules: []api.Rule{want}}
			checkParse(t, l, all)
			checkParse(t, open, all)
			checkError(t, append(slices.Clone(open), wordAt(999, "y")), api.ErrWord, 999)
			continue
		}
		checkError(t, l, api.ErrWord, 200+10*n)
		checkError(t, open, api.ErrWord, 0)
	}
	checkError(t, []api.Token{wordAt(44, "resolver")}, api.ErrWord, 0)
	checkError(t, []api.Token{lineAt(9), wordAt(44, "resolver")}, api.ErrWord, 0)
	checkParse(t, []api.Token{wordAt(44, "resolver"), wordAt(55, "1.1.1.1")}, api.Rules{Servers: []api.Addr{address(t, "1.1.1.1")}})
}

// A Token of another Kind counts as a Word, with or without a text.
func TestOtherKinds(t *testing.T) {
	words := []string{"deny", "name", "*.x", "icmp", "1-2"}
	want := one(api.Rule{Name: "x", Wild: true, Proto: 1, Low: 1, High: 2})
	for _, kind := range []int{0, api.Quote, 4, -1, -2, 1 << 32, math.MaxInt, math.MinInt} {
		all := lineOf(60, words...)
		for i := range words {
			l := lineOf(60, words...)
			l[i].Kind, all[i].Kind = kind, kind
			checkParse(t, l, want)
		}
		checkParse(t, all, want)
		checkParse(t, all[:len(words)], want)
		checkParse(t, []api.Token{{Kind: kind, Text: "resolver"}, {Kind: kind, Text: "::"}}, api.Rules{Servers: []api.Addr{{V6: true}}})
		// It ends no line, and no line goes on behind it.
		checkError(t, []api.Token{wordAt(1, "resolver"), {Kind: kind, At: 2}, lineAt(3)}, api.ErrAddr, 2)
		checkError(t, []api.Token{{Kind: kind, At: 8}}, api.ErrWord, 8)
		checkError(t, []api.Token{{Kind: kind, At: -8}, lineAt(4)}, api.ErrWord, -8)
		checkError(t, append(slices.Clone(all[:len(words)]), api.Token{Kind: kind, At: 77}, lineAt(90)), api.ErrWord, 77)
	}
	// What a Line has as text, and what any has as Row, plays no part.
	l := lineOf(60, words...)
	l[len(words)].Text = "resolver"
	for i := range l {
		l[i].Row = 9 - 4*i
	}
	checkParse(t, append(l, api.Token{Kind: api.Line, Text: "x", At: -1}), want)
}

func TestFirstWord(t *testing.T) {
	for _, s := range []string{"", "x", "Resolver", "RESOLVER", "Allow", "ALLOW", "Deny", "allo", "allowe", "allowed", "den", "denyy", "resolve", "resolvers", " allow", "allow ", "deny\n", "allow\x00", "#", "*", "name", "net", "tcp", "any", "permit", "block", "1.1.1.1", "0", "\xff", "аllow"} {
		checkWrong(t, api.ErrWord, 0, s)
		checkWrong(t, api.ErrWord, 0, s, "1.1.1.1")
		checkWrong(t, api.ErrWord, 0, s, "name", "a", "tcp", "1")
		checkWrong(t, api.ErrWord, 0, s, "net", "1.1.1.1/32", "tcp", "1", "too", "many")
	}
	// Lists that are full turn nothing of that, and are not in the way of what is not for them.
	rules, list := denials(t, mostRules)
	servers := resolvers(mostServers)
	checkError(t, slices.Concat(rules, servers, lineOf(90_000, "x")), api.ErrWord, 90_000)
	checkParse(t, slices.Concat(servers, rules), api.Rules{Servers: numbered(mostServers), Rules: list})
	checkParse(t, slices.Concat(rules, servers), api.Rules{Servers: numbered(mostServers), Rules: list})
}

func TestResolver(t *testing.T) {
	for _, s := range []string{"1.2.3.4", "0.0.0.0", "255.255.255.255", "::", "::1", "2001:db8::7", "1:2:3:4:5:6:7:8", "ABCD::", "0:0::0"} {
		checkParse(t, lineOf(0, "resolver", s), api.Rules{Servers: []api.Addr{address(t, s)}})
	}
	for _, s := range []string{"", "a", "a.b", "1.2.3", "1.2.3.4.5", "1.2.3.256", "01.2.3.4", "1.2.3.4/32", "::1/128", ":::", "1::2::3", "g::", "*", "allow", "1.2.3.4 ", " ::1", "::ffff:1.2.3.4", "#"} {
		checkWrong(t, api.ErrAddr, 1, "resolver", s)
		checkWrong(t, api.ErrAddr, 1, "resolver", s, "x")
	}
	// Both families side by side; a server of one is none of the other.
	checkParse(t, slices.Concat(lineOf(0, "resolver", "0.0.0.0"), lineOf(50, "resolver", "::"), lineOf(90, "resolver", "100::"), lineOf(99, "resolver", "1.0.0.0")), api.Rules{Servers: []api.Addr{{}, {V6: true}, address(t, "100::"), address(t, "1.0.0.0")}})
}

func TestServerTwice(t *testing.T) {
	for _, twice := range [][2]string{{"7.7.7.7", "7.7.7.7"}, {"::", "0:0:0:0:0:0:0:0"}, {"ab::1", "AB:0::0:1"}, {"0.0.0.0", "0.0.0.0"}} {
		first := lineOf(0, "resolver", twice[0])
		between := slices.Concat(lineOf(100, "resolver", "3.3.3.3"), lineOf(200, "deny", "net", "::/0", "any", "*"))
		again := lineOf(300, "resolver", twice[1])
		checkError(t, slices.Concat(first, again), api.ErrThere, 310)
		checkError(t, slices.Concat(first, between, again), api.ErrThere, 310)
		checkError(t, slices.Concat(first, between, again[:2]), api.ErrThere, 310)
		checkError(t, slices.Concat(first, lineOf(300, "resolver", twice[1], "x")), api.ErrThere, 310)
	}
}

func TestAllServers(t *testing.T) {
	all := resolvers(mostServers)
	checkParse(t, all, api.Rules{Servers: numbered(mostServers)})
	for i := range mostServers {
		again := lineOf(9_000, "resolver", fmt.Sprintf("10.0.0.%d", i))
		checkError(t, slices.Concat(all, again), api.ErrThere, 9_010) // named ahead of ErrBig
	}
	checkError(t, resolvers(mostServers+1), api.ErrBig, 100*mostServers+10)
	checkError(t, resolvers(mostServers+5), api.ErrBig, 100*mostServers+10)
	checkError(t, slices.Concat(all, lineOf(9_000, "resolver", "::1")), api.ErrBig, 9_010)
	checkError(t, slices.Concat(all, lineOf(9_000, "resolver", "::1", "x")), api.ErrBig, 9_010)
	checkError(t, slices.Concat(all, lineOf(9_000, "resolver", "x")), api.ErrAddr, 9_010)
	checkError(t, slices.Concat(all, lineOf(9_000, "resolver")), api.ErrWord, 9_010)
	checkError(t, slices.Concat(all, lineOf(9_000, "resolver")[:1]), api.ErrWord, 0)
}

func TestAllRules(t *testing.T) {
	all, rules := denials(t, mostRules)
	checkParse(t, all, api.Rules{Rules: rules})
	more, _ := denials(t, mostRules+1)
	checkError(t, more, api.ErrBig, 100*mostRules)
	// It is told at the first word, ahead of all that is wrong behind that.
	for _, words := range [][]string{{"allow"}, {"deny"}, {"deny", "x"}, {"allow", "name"}, {"allow", "name", "A"}, {"allow", "net", "x"}, {"deny", "name", "a", "x"}, {"deny", "name", "a", "tcp", "x"}, {"allow", "name", "a", "tcp", "1", "2"}, {"allow", "name", "a", "tcp", "1"}} {
		checkError(t, slices.Concat(all, lineOf(90_000, words...)), api.ErrBig, 90_000)
		checkError(t, slices.Concat(all, lineOf(90_000, words...)[:len(words)]), api.ErrBig, 90_000)
	}
	checkError(t, slices.Concat(all, lineOf(90_000, "Allow")), api.ErrWord, 90_000)
	// Servers are no rules.
	checkParse(t, slices.Concat(all, lineOf(90_000, "resolver", "10.0.0.0")), api.Rules{Servers: numbered(1), Rules: rules})
	// What is wrong in the last one that may be, is told as it is.
	checkError(t, slices.Concat(all[6:], lineOf(90_000, "allow", "x")), api.ErrWord, 90_010)
}

func TestNameOrNet(t *testing.T) {
	for _, s := range []string{"", "nam", "names", "Name", "NAME", "ne", "nets", "Net", "NET", "name ", "host", "*", "a", "::/0", "tcp", "allow", "#"} {
		for _, first := range []string{"allow", "deny"} {
			checkWrong(t, api.ErrWord, 1, first, s)
			checkWrong(t, api.ErrWord, 1, first, s, "a", "tcp", "1")
			checkWrong(t, api.ErrWord, 1, first, s, "::/0", "tcp", "1", "x")
		}
	}
	// What one takes the other does not.
	checkWrong(t, api.ErrName, 2, "allow", "name", "A/8", "tcp", "1")
	checkWrong(t, api.ErrAddr, 2, "allow", "net", "a", "tcp", "1")
	checkLine(t, nameRule("10.0.0.0/8", false), "deny", "name", "10.0.0.0/8", "tcp", "*")
	checkLine(t, nameRule("::/0", false), "deny", "name", "::/0", "tcp", "*")
}

// patternLike: what the chapter's words say of a pattern.
func patternLike(s string) (host string, wild, may bool) {
	ok := func(s string) bool { return name.Right(s) && s != "" && !strings.ContainsRune(s, '#') }
	if len(s) < 2 || s[:2] != "*." {
		return s, false, ok(s)
	}
	return s[2:], true, ok(s) && ok(s[2:]) && !(len(s) >= 4 && s[2:4] == "*.")
}

// checkPattern: does Parse take s as the chapter says of a pattern, and does Right tell the same of what it tells?
func checkPattern(t *testing.T, s string) {
	t.Helper()
	host, wild, may := patternLike(s)
	if !may {
		checkWrong(t, api.ErrName, 2, "deny", "name", s, "tcp", "*")
		checkWrong(t, api.ErrName, 2, "deny", "name", s)
		checkWrong(t, api.ErrName, 2, "deny", "name", s, "x", "y", "z")
		return
	}
	checkLine(t, nameRule(host, wild), "deny", "name", s, "tcp", "*")
	checkRight(t, one(nameRule(host, wild)), "deny name "+s+" tcp *\n")
}

func TestPatterns(t *testing.T) {
	for _, r := range []struct {
		s, host string
		wild    bool
	}{
		{"a", "a", false}, {"a.b", "a.b", false}, {"*.a", "a", true}, {"*.a.b.c", "a.b.c", true}, {"*", "*", false}, {"*.*", "*", true},
		{"a.*.b", "a.*.b", false}, {"*.a.*.b", "a.*.b", true}, {"a.*", "a.*", false}, {"**", "**", false}, {"**.a", "**.a", false}, {"*.**.a", "**.a", true}, {"*.a*", "a*", true},
		{"*a.b", "*a.b", false}, {"0", "0", false}, {"1.2.3.4", "1.2.3.4", false}, {"_x-y", "_x-y", false}, {"!~", "!~", false}, {"name", "name", false}, {"tcp", "tcp", false},
	} {
		checkLine(t, nameRule(r.host, r.wild), "deny", "name", r.s, "tcp", "*")
		checkPattern(t, r.s)
	}
	for _, s := range []string{"", "*.", "*..", "*.*.", "*.*.a", "*.*.*", "*.*.a.b", ".", ".a", "a.", "a..b", "*.a.", "*..a", "A", "a.B", "*.A", "a#", "#", "#a", "a#b.c", "*.#", "*.a#b", "a b", "a\n", "a\t.b", "a\x00", "a\x7f", "é", "\xff", "a.é", strings.Repeat("a", 64), "*." + strings.Repeat("a", 64)} {
		checkWrong(t, api.ErrName, 2, "allow", "name", s, "udp", "1")
		checkPattern(t, s)
	}
}

// A pattern, "*." and all, is a name: so long it may be, and no longer.
func TestLongPatterns(t *testing.T) {
	for _, n := range []int{62, 63, 64} {
		checkPattern(t, strings.Repeat("a", n))
		checkPattern(t, "*."+strings.Repeat("a", n))
	}
	for n := mostName - 4; n <= mostName+3; n++ {
		host := longName(n)
		if len(host) != n || name.Right(host) != (n <= mostName) {
			t.Fatalf("the test's own name of %d bytes is not as it should be", n)
		}
		checkPattern(t, host)
		checkPattern(t, "*."+host)
		if got := Right(one(nameRule(host, false))); got != (n <= mostName) {
			t.Errorf("P19.2: Right of a name of %d bytes: %v", n, got)
		}
		if got := Right(one(nameRule(host, true))); got != (n <= mostName-2) {
			t.Errorf("P19.2: Right of a wild name of %d bytes: %v", n, got)
		}
	}
}

// All patterns of up to six bytes, of those that mean something, and some others.
func TestAllShortPatterns(t *testing.T) {
	texts := []string{""}
	for range 6 {
		var longer []string
		for _, s := range texts {
			for _, c := range []string{"*", ".", "a", "#"} {
				longer = append(longer, s+c)
			}
		}
		texts = longer
		for _, s := range texts {
			checkPattern(t, s)
		}
	}
	for i := range 256 {
		b := string([]byte{byte(i)})
		checkPattern(t, b)
		checkPattern(t, "a"+b+"c")
		checkPattern(t, "*."+b)
	}
}

func TestNets(t *testing.T) {
	for _, s := range []string{"0.0.0.0/0", "10.0.0.0/8", "10.0.0.0/9", "10.1.2.3/32", "128.0.0.0/1", "255.255.255.255/32", "::/0", "::/128", "2001:db8::/32", "8000::/1", "::1/128"} {
		want := api.Rule{Allow: true, Net: prefix(t, s), Proto: 256, High: mostPorts}
		checkLine(t, want, "allow", "net", s, "any", "*")
		checkRight(t, one(want), "allow net "+s+" any *\n")
	}
	// Other ways to tell one.
	checkLine(t, api.Rule{Net: prefix(t, "2001:db8::/32"), Proto: 1}, "deny", "net", "2001:0DB8:0:0::/32", "icmp", "0")
	for _, s := range []string{"", "a", "a.b", "*", "10.0.0.0", "::1", "::", "10.0.0.0/", "/8", "/", "10.0.0.0/33", "::/129", "10.0.0.0/08", "10.0.0.0/-1", "10.0.0.0/+8", "10.0.0.0/8/8", "10.1.0.0/8", "0.0.0.1/31", "1.0.0.0/0", "2001:db8::1/32", "::1/127", "::1/0", "10.0.0/8", "g::/0", "10.0.0.0/8 ", "::/0#"} {
		checkWrong(t, api.ErrAddr, 2, "allow", "net", s, "any", "*")
		checkWrong(t, api.ErrAddr, 2, "deny", "net", s)
		checkWrong(t, api.ErrAddr, 2, "deny", "net", s, "x", "y", "z")
	}
}

func TestProtos(t *testing.T) {
	for _, r := range []struct {
		word   string
		number int
	}{{"tcp", 6}, {"udp", 17}, {"icmp", 1}, {"any", 256}} {
		host := api.Rule{Allow: true, Name: "a", Proto: r.number, Low: 3, High: 4}
		checkLine(t, host, "allow", "name", "a", r.word, "3-4")
		checkRight(t, one(host), "allow name a "+r.word+" 3-4\n")
		net := api.Rule{Net: prefix(t, "::/0"), Proto: r.number, Low: 5, High: 5}
		checkLine(t, net, "deny", "net", "::/0", r.word, "5")
		checkRight(t, one(net), "deny net ::/0 "+r.word+" 5\n")
	}
	for _, s := range []string{"", "x", "TCP", "Tcp", "tc", "tcpp", "tcp ", "icmp6", "icmpv6", "ip", "all", "*", "6", "17", "1", "256", "an", "anyy", "name", "#"} {
		checkWrong(t, api.ErrWord, 3, "allow", "name", "a", s, "1")
		checkWrong(t, api.ErrWord, 3, "deny", "net", "::/0", s)
		checkWrong(t, api.ErrWord, 3, "deny", "net", "::/0", s, "x", "y")
	}
	for number := -70; number < 400; number++ {
		r := api.Rule{Name: "a", Proto: number}
		if may := number == 1 || number == 6 || number == 17 || number == 256; Right(one(r)) != may || (Text(one(r)) != "") != may {
			t.Errorf("P19.2: Right of the protocol %d: %v", number, !may)
		}
	}
	for _, number := range []int{math.MinInt, math.MaxInt, 1 << 32, 6 + 1<<32, 256 + 1<<16} {
		checkNot(t, one(api.Rule{Name: "a", Proto: number}))
	}
}

// number: the chapter's words of a number of ports, but for how great it is.
var number = regexp.MustCompile(`\A(0|[1-9][0-9]{0,4})\z`)

// portsLike: what the chapter's words say of ports.
func portsLike(s string) (low, high int, may bool) {
	if s == "*" {
		return 0, mostPorts, true
	}
	var l []int
	for _, x := range strings.Split(s, "-") {
		n, e := strconv.Atoi(x)
		if e != nil || !number.MatchString(x) || n > mostPorts {
			return 0, 0, false
		}
		l = append(l, n)
	}
	if len(l) > 2 {
		return 0, 0, false
	}
	return l[0], l[len(l)-1], l[0] <= l[len(l)-1]
}

// checkPorts: does Parse take s as the chapter says of ports?
func checkPorts(t *testing.T, s string) {
	t.Helper()
	low, high, may := portsLike(s)
	if !may {
		checkWrong(t, api.ErrNumber, 4, "allow", "name", "a", "tcp", s)
		checkWrong(t, api.ErrNumber, 4, "deny", "net", "::/0", "udp", s, "x")
		return
	}
	checkLine(t, api.Rule{Allow: true, Name: "a", Proto: 1, Low: low, High: high}, "allow", "name", "a", "icmp", s)
}

func TestPorts(t *testing.T) {
	for _, r := range []struct {
		s         string
		low, high int
	}{
		{"*", 0, 65_535}, {"0", 0, 0}, {"1", 1, 1}, {"443", 443, 443}, {"9999", 9_999, 9_999}, {"10000", 10_000, 10_000}, {"65534", 65_534, 65_534}, {"65535", 65_535, 65_535},
		{"0-0", 0, 0}, {"5-5", 5, 5}, {"65535-65535", 65_535, 65_535}, {"0-65535", 0, 65_535}, {"0-1", 0, 1}, {"0-65534", 0, 65_534}, {"1-65535", 1, 65_535}, {"1-65534", 1, 65_534}, {"80-443", 80, 443}, {"9-10", 9, 10}, {"99-100", 99, 100},
	} {
		checkLine(t, api.Rule{Name: "a", Proto: 6, Low: r.low, High: r.high}, "deny", "name", "a", "tcp", r.s)
		checkPorts(t, r.s)
	}
	for _, s := range []string{
		"", "x", "65536", "65540", "70000", "99999", "100000", "123456", "065535", "000001", "00000", "00", "01", "007", "00001", "0-00", "00-1", "01-2", "1-02", "0-65536", "65536-65537", "65535-65536", "0-100000",
		"-", "--", "-1", "1-", "-1-2", "1-2-", "1--2", "-1-", "1-2-3", "1-2-3-4", "5-4", "1-0", "65535-0", "10-9", "100-99",
		"**", "*-", "-*", "*-*", "*-5", "1-*", "*1", "1*", "+1", "1-+2", "+1-2", " 1", "1 ", "1 -2", "1- 2", "1.0", "1e3", "0x1", "1_0", "1,2", "1:2", "a-b", "tcp", "#", "1#", "\x001", "\xff", "१", "4294967296", "4294967297", "18446744073709551616", "18446744073709551617", strings.Repeat("9", 400), strings.Repeat("0", 400), strings.Repeat("-", 400),
	} {
		checkWrong(t, api.ErrNumber, 4, "deny", "name", "a", "tcp", s)
		checkPorts(t, s)
	}
}

func TestEachPort(t *testing.T) {
	for n := -3; n < mostPorts+1_000; n++ {
		s := strconv.Itoa(n)
		r, e := Parse([]api.Token{wordAt(1, "allow"), wordAt(2, "name"), wordAt(3, "a"), wordAt(4, "udp"), wordAt(5, s)})
		may := n >= 0 && n <= mostPorts
		if may != (e == nil) || !may && !is(e, api.ErrNumber, 5) {
			t.Fatalf("P19.1: Parse of the port %d: %v", n, e)
		}
		if may && (r.Rules[0].Low != n || r.Rules[0].High != n) {
			t.Fatalf("P19.1: Parse of the port %d: %v", n, r)
		}
		if got := Right(one(api.Rule{Name: "a", Proto: 17, Low: n, High: n})); got != may {
			t.Fatalf("P19.2: Right of the port %d: %v", n, got)
		}
	}
}

// All ports of up to five bytes, of digits and what may be between them.
func TestAllShortPorts(t *testing.T) {
	texts := []string{""}
	for range 5 {
		var longer []string
		for _, s := range texts {
			for _, c := range []string{"0", "1", "7", "-", "*"} {
				longer = append(longer, s+c)
			}
		}
		texts = longer
		for _, s := range texts {
			checkPorts(t, s)
		}
	}
	for i := range 256 {
		b := string([]byte{byte(i)})
		for _, s := range []string{b, b + "1", "1" + b, "1" + b + "2", "1-" + b, b + "-9"} {
			checkPorts(t, s)
		}
	}
}

// Each word that is missing is told at the Line, wherever that is.
func TestMissing(t *testing.T) {
	for _, words := range [][]string{{"resolver", "1.1.1.1"}, {"allow", "name", "a", "tcp", "1"}, {"deny", "net", "::/0", "any", "*"}} {
		for n := 1; n < len(words); n++ {
			checkWrong(t, api.ErrWord, n, words[:n]...)
			l := lineOf(500, words[:n]...)
			for _, at := range []int{0, 3, -1, math.MaxInt, math.MinInt} {
				l[n].At = at
				checkError(t, l, api.ErrWord, at)
				// The words of the next line are not taken for it.
				checkError(t, slices.Concat(l, lineOf(600, words[n:]...)), api.ErrWord, at)
				checkError(t, slices.Concat(l, []api.Token{lineAt(700)}), api.ErrWord, at)
			}
		}
	}
}

// One word too many is told at it, behind all others.
func TestTooMany(t *testing.T) {
	for _, words := range [][]string{{"resolver", "1.1.1.1"}, {"allow", "name", "a", "tcp", "1"}, {"deny", "net", "::/0", "any", "*"}} {
		n := len(words)
		for _, more := range []string{"", "x", "allow", "resolver", "1", "1.1.1.1", "*", "#"} {
			checkWrong(t, api.ErrWord, n, append(slices.Clone(words), more)...)
			checkWrong(t, api.ErrWord, n, append(slices.Clone(words), more, more, "y")...)
			checkError(t, slices.Concat(lineOf(40, append(slices.Clone(words), more)...)[:n+1]), api.ErrWord, 40+10*n)
		}
		// Two lines in one are one with too many.
		checkWrong(t, api.ErrWord, n, slices.Concat(words, words)...)
	}
	checkWrong(t, api.ErrAddr, 1, "resolver", "x", "y")
	checkWrong(t, api.ErrThere, 1, "resolver", "7.7.7.7", "y")
	checkWrong(t, api.ErrWord, 1, "allow", "x", "a", "tcp", "1", "y")
	checkWrong(t, api.ErrName, 2, "allow", "name", "A", "tcp", "1", "y")
	checkWrong(t, api.ErrAddr, 2, "allow", "net", "A", "tcp", "1", "y")
	checkWrong(t, api.ErrWord, 3, "allow", "name", "a", "x", "1", "y")
	checkWrong(t, api.ErrNumber, 4, "allow", "name", "a", "tcp", "x", "y")
}

// Of all that is wrong in a line the first counts, whatever else there is; of two lines the first one that is wrong.
func TestFirstErrorCounts(t *testing.T) {
	good := []string{"deny", "name", "a", "udp", "7"}
	bad := []string{"x", "x", "X", "x", "x"}
	codes := []api.Errno{api.ErrWord, api.ErrWord, api.ErrName, api.ErrWord, api.ErrNumber, api.ErrWord}
	for mask := 1; mask < 1<<5; mask++ {
		for n := 1; n <= 7; n++ {
			words := slices.Concat(good, []string{"y", "z"})
			first := -1
			for i := range min(n, 5) {
				if mask>>i&1 == 1 {
					words[i] = bad[i]
				}
			}
			for i := range min(n, 5) {
				if mask>>i&1 == 1 && first < 0 {
					first = i
				}
			}
			switch {
			case first >= 0:
				checkWrong(t, codes[first], first, words[:n]...)
			case n < 5:
				checkWrong(t, api.ErrWord, n, words[:n]...)
			case n > 5:
				checkWrong(t, api.ErrWord, 5, words[:n]...)
			}
		}
	}
	checkError(t, slices.Concat(lineOf(0, "resolver", "x"), lineOf(50, "y")), api.ErrAddr, 10)
	checkError(t, slices.Concat(lineOf(0, "allow", "name", "a", "tcp", "1", "2"), lineOf(100, "resolver", "x")), api.ErrWord, 50)
	checkError(t, slices.Concat(lineOf(0, "allow", "name"), lineOf(100, "y")), api.ErrWord, 20)
}

// Servers and rules stand as they were told, however they are mixed.
func TestOrder(t *testing.T) {
	text := " resolver 9.9.9.9 # one\n\tdeny name b tcp 1\nresolver ::1\n\nallow name *.a any 2-3\nresolver 1.1.1.1\r\ndeny name b tcp 1\nallow net 9.0.0.0/8 icmp *"
	l, e := lexer.Tokens(text)
	if e != nil {
		t.Fatal(e)
	}
	twice := api.Rule{Name: "b", Proto: 6, Low: 1, High: 1}
	want := api.Rules{
		Servers: []api.Addr{address(t, "9.9.9.9"), address(t, "::1"), address(t, "1.1.1.1")},
		Rules:   []api.Rule{twice, {Allow: true, Name: "a", Wild: true, Proto: 256, Low: 2, High: 3}, twice, {Allow: true, Net: prefix(t, "9.0.0.0/8"), Proto: 1, High: mostPorts}},
	}
	checkParse(t, l, want)
	checkRight(t, want, "resolver 9.9.9.9\nresolver ::1\nresolver 1.1.1.1\ndeny name b tcp 1\nallow name *.a any 2-3\ndeny name b tcp 1\nallow net 9.0.0.0/8 icmp *\n")
}

// R3: what is handed in stays, with the room behind it; who writes into what is handed out turns nothing else.
func TestMemory(t *testing.T) {
	all := slices.Concat(lineOf(0, "resolver", "1.1.1.1"), lineOf(100, "resolver", "::1"), lineOf(200, "allow", "name", "*.a", "tcp", "1"), lineOf(300, "deny", "net", "::/0", "any", "*"))
	want := api.Rules{Servers: []api.Addr{address(t, "1.1.1.1"), address(t, "::1")}, Rules: []api.Rule{{Allow: true, Name: "a", Wild: true, Proto: 6, Low: 1, High: 1}, {Net: prefix(t, "::/0"), Proto: 256, High: mostPorts}}}
	room := append(slices.Clone(all), wordAt(7, "x"), wordAt(8, "y"))
	before := slices.Clone(room)
	first, _ := Parse(room[:len(all)])
	second, _ := Parse(room[:len(all)])
	for i := range first.Servers[:cap(first.Servers)] {
		first.Servers[:cap(first.Servers)][i] = api.Addr{V6: true}
	}
	for i := range first.Rules[:cap(first.Rules)] {
		first.Rules[:cap(first.Rules)][i] = api.Rule{Name: "x"}
	}
	if !same(second, want) || !slices.Equal(room, before) {
		t.Errorf("R3: behind a writing into other rules: %v of %v; want %v", second, room, want)
	}
	// And the other way round: who writes into tokens turns no rules.
	clear(room)
	if !same(second, want) {
		t.Errorf("R3: behind a writing into the tokens: %v; want %v", second, want)
	}
	r := api.Rules{Servers: append(slices.Clone(want.Servers), api.Addr{V6: true})[:2], Rules: append(slices.Clone(want.Rules), api.Rule{Name: "x"})[:2]}
	if !Right(r) || Text(r) == "" || !same(r, want) || r.Servers[:3][2] != (api.Addr{V6: true}) || r.Rules[:3][2] != (api.Rule{Name: "x"}) {
		t.Errorf("R3: Right or Text turned %v", r)
	}
}

// Each thing by itself that Parse could not tell, and each at its edge.
func TestRightRule(t *testing.T) {
	host := api.Rule{Name: "a", Proto: 6, Low: 1, High: 2}
	net := api.Rule{Net: prefix(t, "1.0.0.0/8"), Proto: 256}
	for i, r := range []struct {
		r    api.Rule
		text string
	}{
		{host, "deny name a tcp 1-2\n"},
		{turned(host, func(r *api.Rule) { r.Allow = true }), "allow name a tcp 1-2\n"},
		{turned(host, func(r *api.Rule) { r.Wild = true }), "deny name *.a tcp 1-2\n"},
		{turned(host, func(r *api.Rule) { r.Name = "*" }), "deny name * tcp 1-2\n"},
		{turned(host, func(r *api.Rule) { r.Name, r.Wild = "*", true }), "deny name *.* tcp 1-2\n"},
		{turned(host, func(r *api.Rule) { r.Name = "a.*.b" }), "deny name a.*.b tcp 1-2\n"},
		{turned(host, func(r *api.Rule) { r.Low, r.High = 2, 2 }), "deny name a tcp 2\n"},
		{turned(host, func(r *api.Rule) { r.Low, r.High = 0, 0 }), "deny name a tcp 0\n"},
		{turned(host, func(r *api.Rule) { r.Low, r.High = 0, 65_535 }), "deny name a tcp *\n"},
		{turned(host, func(r *api.Rule) { r.Low, r.High = 0, 65_534 }), "deny name a tcp 0-65534\n"},
		{turned(host, func(r *api.Rule) { r.Low, r.High = 1, 65_535 }), "deny name a tcp 1-65535\n"},
		{turned(host, func(r *api.Rule) { r.Low, r.High = 65_535, 65_535 }), "deny name a tcp 65535\n"},
		{net, "deny net 1.0.0.0/8 any 0\n"},
		{turned(net, func(r *api.Rule) { r.Allow = true }), "allow net 1.0.0.0/8 any 0\n"},
		{api.Rule{Proto: 1, High: 65_535}, "deny net 0.0.0.0/0 icmp *\n"},
		{api.Rule{Proto: 1, Net: api.Prefix{Addr: api.Addr{V6: true}}}, "deny net ::/0 icmp 0\n"},
		{api.Rule{Proto: 17, Net: api.Prefix{Bits: 32}}, "deny net 0.0.0.0/32 udp 0\n"},
	} {
		if !Right(one(r.r)) {
			t.Errorf("P19.2: Right of the row %d: false", i)
		}
		checkRight(t, one(r.r), r.text)
		checkRight(t, api.Rules{Rules: []api.Rule{net, r.r, host}}, "deny net 1.0.0.0/8 any 0\n"+r.text+"deny name a tcp 1-2\n")
	}
}

func TestNotRightRule(t *testing.T) {
	host := api.Rule{Name: "a", Proto: 6, Low: 1, High: 2}
	net := api.Rule{Net: prefix(t, "1.0.0.0/8"), Proto: 256}
	for i, r := range []api.Rule{
		{},
		turned(host, func(r *api.Rule) { r.Name = "*.a" }),
		turned(host, func(r *api.Rule) { r.Name, r.Wild = "*.a", true }),
		turned(host, func(r *api.Rule) { r.Name = "*.*" }),
		turned(host, func(r *api.Rule) { r.Name = "*." }),
		turned(host, func(r *api.Rule) { r.Name = "A" }),
		turned(host, func(r *api.Rule) { r.Name = "a." }),
		turned(host, func(r *api.Rule) { r.Name = ".a" }),
		turned(host, func(r *api.Rule) { r.Name, r.Wild = ".a", true }),
		turned(host, func(r *api.Rule) { r.Name = "a#" }),
		turned(host, func(r *api.Rule) { r.Name, r.Wild = "#", true }),
		turned(host, func(r *api.Rule) { r.Name = "a b" }),
		turned(host, func(r *api.Rule) { r.Name = "a tcp 1-2\ndeny name a" }),
		turned(host, func(r *api.Rule) { r.Name = "\x00" }),
		turned(host, func(r *api.Rule) { r.Name, r.Wild = "", true }),
		turned(host, func(r *api.Rule) { r.Net = prefix(t, "1.0.0.0/8") }),
		turned(host, func(r *api.Rule) { r.Net.Bits = 1 }),
		turned(host, func(r *api.Rule) { r.Net.Bits = -1 }),
		turned(host, func(r *api.Rule) { r.Net.Addr.V6 = true }),
		turned(host, func(r *api.Rule) { r.Net.Addr.B[15] = 1 }),
		turned(host, func(r *api.Rule) { r.Proto = 0 }),
		turned(host, func(r *api.Rule) { r.Proto = 58 }),
		turned(host, func(r *api.Rule) { r.Low = 3 }),
		turned(host, func(r *api.Rule) { r.Low = -1 }),
		turned(host, func(r *api.Rule) { r.Low, r.High = -1, -1 }),
		turned(host, func(r *api.Rule) { r.Low, r.High = -2, -1 }),
		turned(host, func(r *api.Rule) { r.Low, r.High = 0, -1 }),
		turned(host, func(r *api.Rule) { r.High = 65_536 }),
		turned(host, func(r *api.Rule) { r.Low, r.High = 0, 65_536 }),
		turned(host, func(r *api.Rule) { r.Low, r.High = 65_536, 65_536 }),
		turned(host, func(r *api.Rule) { r.Low, r.High = math.MinInt, math.MaxInt }),
		turned(net, func(r *api.Rule) { r.Wild = true }),
		turned(net, func(r *api.Rule) { r.Net.Bits = 7 }),
		turned(net, func(r *api.Rule) { r.Net.Bits = 33 }),
		turned(net, func(r *api.Rule) { r.Net.Bits = -1 }),
		turned(net, func(r *api.Rule) { r.Net.Addr.B[3] = 1 }),
		turned(net, func(r *api.Rule) { r.Net.Addr.B[4] = 1 }),
		turned(net, func(r *api.Rule) { r.Net = api.Prefix{Addr: api.Addr{V6: true}, Bits: 129} }),
		turned(net, func(r *api.Rule) { r.Proto = 0 }),
		turned(net, func(r *api.Rule) { r.Low = 1 }),
	} {
		if Right(one(r)) {
			t.Errorf("P19.2: Right of the row %d: true", i)
		}
		checkNot(t, one(r))
		checkNot(t, api.Rules{Rules: []api.Rule{net, r}})
		checkNot(t, api.Rules{Rules: []api.Rule{r, net}})
		checkNot(t, api.Rules{Servers: numbered(1), Rules: []api.Rule{host, r, net}})
	}
}

func TestRightServers(t *testing.T) {
	checkRight(t, api.Rules{Servers: []api.Addr{{}}}, "resolver 0.0.0.0\n")
	checkRight(t, api.Rules{Servers: []api.Addr{{V6: true}, {}}}, "resolver ::\nresolver 0.0.0.0\n")
	checkRight(t, api.Rules{Servers: []api.Addr{{V6: true, B: [16]byte{1}}, {B: [16]byte{1}}, {V6: true, B: [16]byte{15: 1}}}}, "resolver 100::\nresolver 1.0.0.0\nresolver ::1\n")
	a, b := address(t, "1.1.1.1"), address(t, "::1")
	for _, l := range [][]api.Addr{{a, a}, {a, b, a}, {b, b}, {a, b, b}, {{}, {}}, {{B: [16]byte{4: 1}}}, {{B: [16]byte{1, 1, 1, 1, 15: 1}}}, {a, {B: [16]byte{15: 1}}}} {
		checkNot(t, api.Rules{Servers: l})
		checkNot(t, api.Rules{Servers: l, Rules: []api.Rule{{Name: "a", Proto: 6}}})
	}
}

func TestRightAsManyAsMayBe(t *testing.T) {
	for _, n := range []int{1, mostServers - 1, mostServers, mostServers + 1, mostServers + 40, 2_000} {
		r := api.Rules{Servers: numbered(n)}
		if n > mostServers {
			checkNot(t, r)
			continue
		}
		text := ""
		for i := range n {
			text += fmt.Sprintf("resolver 10.0.0.%d\n", i)
		}
		checkRight(t, r, text)
	}
	for _, n := range []int{1, mostRules - 1, mostRules, mostRules + 1, 5 * mostRules} {
		_, rules := denials(t, n)
		if n > mostRules {
			checkNot(t, api.Rules{Rules: rules})
			continue
		}
		text := ""
		for i := range n {
			text += fmt.Sprintf("deny net 10.0.0.0/8 udp %d\n", i)
		}
		checkRight(t, api.Rules{Rules: rules}, text)
		checkRight(t, api.Rules{Servers: numbered(1), Rules: rules}, "resolver 10.0.0.0\n"+text)
	}
	// The same rule may stand there as often as there is room.
	same := slices.Repeat([]api.Rule{nameRule("a", true)}, mostRules+1)
	checkRight(t, api.Rules{Rules: same[1:]}, strings.Repeat("deny name *.a tcp *\n", mostRules))
	checkNot(t, api.Rules{Rules: same})
	_, all := denials(t, mostRules)
	last := slices.Clone(all)
	last[mostRules-1].Proto = 2
	checkNot(t, api.Rules{Servers: numbered(mostServers), Rules: last})
}

// Rules may be right whose text is more than a policy's may be: it is told all the same.
func TestLongText(t *testing.T) {
	rules := slices.Repeat([]api.Rule{nameRule(longName(mostName), false)}, mostRules)
	text := strings.Repeat("deny name "+longName(mostName)+" tcp *\n", mostRules)
	if len(text) <= api.MaxPolicy {
		t.Fatal("the test's own text is too short")
	}
	checkRight(t, api.Rules{Rules: rules}, text)
}

// What follows: what is told as text is parsed, as it was; of rules as they come, ever the same ones.
func TestWhatFollows(t *testing.T) {
	seed := uint32(1)
	next := func(n int) int {
		seed = seed*1_664_525 + 1_013_904_223
		return int(seed>>8) % n
	}
	nets := []string{"0.0.0.0/0", "10.0.0.0/8", "1.2.3.4/32", "::/0", "fe80::/10", "::1/128", "2001:db8:0:0:1::/80"}
	names := []string{"a", "a.b", "*", "x-1.example.org", "a.*", longName(mostName - 2)}
	edges := []int{0, 1, 2, 443, 65_534, 65_535}
	for range 300 {
		r := api.Rules{Servers: numbered(next(mostServers + 1))}
		for range next(30) {
			low := edges[next(len(edges))]
			x := api.Rule{Allow: next(2) == 0, Proto: []int{1, 6, 17, 256}[next(4)], Low: low, High: max(low, edges[next(len(edges))])}
			if next(2) == 0 {
				x.Net = prefix(t, nets[next(len(nets))])
			} else {
				x.Name, x.Wild = names[next(len(names))], next(2) == 0
			}
			r.Rules = append(r.Rules, x)
		}
		text := Text(r)
		got, e := Parse(lexed(t, text))
		if !Right(r) || e != nil || !same(got, r) || Text(got) != text {
			t.Fatalf("P19.2: the text of %s: %q, and of that Parse: %s, %v", few(r), few(text), few(got), e)
		}
		if strings.Count(text, "\n") != len(r.Servers)+len(r.Rules) {
			t.Fatalf("P19.2: the text of %s has other lines: %q", few(r), few(text))
		}
	}
}

// R4: where the error is, and what it is, is found through package fault, too, and counted from further out.
func TestErrors(t *testing.T) {
	l, e := lexer.Tokens("# a\nallow name a tcp 0-65536")
	if e != nil {
		t.Fatal(e)
	}
	_, e = Parse(l)
	if at, is := fault.Place(e); at != 21 || !is || fault.Code(e) != api.ErrNumber {
		t.Errorf("R4: the error of ports that may not be: %v at %d, %v; want %v at 21", fault.Code(e), at, is, api.ErrNumber)
	}
	if at, _ := fault.Place(fault.Deeper(10, e)); at != 31 {
		t.Errorf("R4: the same, 10 deeper: at %d; want 31", at)
	}
}
