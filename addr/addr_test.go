package addr

import (
	"errors"
	"fmt"
	"math"
	"net/netip"
	"regexp"
	"strconv"
	"strings"
	"testing"

	"stockade/api"
)

// The words of the chapter, as patterns. Of version 6 with all eight groups told.
var (
	shape4 = regexp.MustCompile(`\A((\d|[1-9]\d|1\d\d|2[0-4]\d|25[0-5])(\.|\z)){4}\z`)
	shape6 = regexp.MustCompile(`\A([0-9a-fA-F]{1,4}(:|\z)){8}\z`)
	bits3  = regexp.MustCompile(`\A(0|[1-9]\d{0,2})\z`)
)

// expected: what the promise says of Parse(s), found by the patterns: "::" is tried as each number of groups of 0.
func expected(s string) (a api.Addr, right bool) {
	if len(s) > 100 {
		return api.Addr{}, false
	}
	if !strings.HasSuffix(s, ".") && shape4.MatchString(s) {
		for i, w := range strings.Split(s, ".") {
			n, _ := strconv.Atoi(w)
			a.B[i] = byte(n)
		}
		return a, true
	}
	if long := written(s); long != "" {
		a.V6 = true
		for i, w := range strings.Split(long, ":") {
			n, _ := strconv.ParseInt(w, 16, 64)
			a.B[2*i], a.B[2*i+1] = byte(n/256), byte(n%256)
		}
		return a, true
	}
	return api.Addr{}, false
}

// written: s of version 6 with all its groups, and without "::"; "", if there is no such text.
func written(s string) string {
	long := func(s string) bool {
		return strings.Count(s, ":") == 7 && !strings.HasSuffix(s, ":") && shape6.MatchString(s)
	}
	if long(s) {
		return s
	}
	for at := range s {
		if !strings.HasPrefix(s[at:], "::") {
			continue
		}
		for n := 1; n <= 8; n++ {
			w := strings.Repeat("0:", n-1) + "0"
			if at > 0 {
				w = s[:at] + ":" + w
			}
			if at+2 < len(s) {
				w += ":" + s[at+2:]
			}
			if long(w) {
				return w
			}
		}
	}
	return ""
}

// told: what the promise says of Text of a right address of version 6: of all ways to write it the one that it names.
func told(a api.Addr) string {
	var groups []string
	for i := 0; i < 16; i += 2 {
		groups = append(groups, fmt.Sprintf("%x", int(a.B[i])*256+int(a.B[i+1])))
	}
	for n := 8; n >= 2; n-- {
		for at := 0; at+n <= 8; at++ {
			if strings.Join(groups[at:at+n], ":")+":" == strings.Repeat("0:", n) {
				return strings.Join(groups[:at], ":") + "::" + strings.Join(groups[at+n:], ":")
			}
		}
	}
	return strings.Join(groups, ":")
}

// isErrAddr tells whether e is just that error, at no place.
func isErrAddr(e error) bool {
	var n api.Errno
	var f *api.Fault
	return errors.As(e, &n) && n == api.ErrAddr && errors.Is(e, api.ErrAddr) && !errors.As(e, &f)
}

// checkParse holds Parse of s against the promise, and what it answers against Text.
func checkParse(t *testing.T, s string) {
	t.Helper()
	want, right := expected(s)
	a, e := Parse(s)
	if right && (e != nil || a != want) {
		t.Errorf("P4.1: Parse(%q): %v, %v; want %v", s, a, e, want)
	}
	if !right && (!isErrAddr(e) || a != (api.Addr{})) {
		t.Errorf("P4.1: Parse(%q): %v, %v; want %d", s, a, e, api.ErrAddr)
	}
	if right {
		checkText(t, want)
	}
}

// checkText: Text of a right address is what the promise says, and is parsed again.
func checkText(t *testing.T, a api.Addr) {
	t.Helper()
	want := fmt.Sprintf("%d.%d.%d.%d", a.B[0], a.B[1], a.B[2], a.B[3])
	if a.V6 {
		want = told(a)
	}
	s := Text(a)
	if s != want || !Right(a) {
		t.Errorf("P4.1: Text of %v: %q, Right %v; want %q", a, s, Right(a), want)
	}
	if again, e := Parse(s); again != a || e != nil {
		t.Errorf("P4.1: what Text told, %q, is parsed as %v, %v; want %v", s, again, e, a)
	}
}

// must: the address that s tells, by the patterns.
func must(t *testing.T, s string) api.Addr {
	t.Helper()
	a, right := expected(s)
	if !right {
		t.Fatalf("the tests' own address %q is none", s)
	}
	return a
}

// texts: of both versions, of each shape that the chapter names.
func texts() []string {
	return []string{
		"0.0.0.0", "1.2.3.4", "10.0.0.1", "99.100.199.200", "249.250.255.0", "255.255.255.255",
		"::", "::1", "1::", "1::2", "::1:2:3:4:5:6:7", "1:2:3:4:5:6:7::", "1:2:3::5:6:7:8", "1:2:3:4:5:6:7:8", "0:0:0:0:0:0:0:0",
		"fe80::1:0:0:1", "1:0:0:2::3", "abcd:ef01:2345:6789:abcd:ef01:2345:6789", "ABCD:EF01::", "0001:002:03:4::", "ffff:ffff:ffff:ffff:ffff:ffff:ffff:ffff",
	}
}

func TestExample(t *testing.T) {
	a := api.Addr{B: [16]byte{1, 2, 3, 4}}
	if s := Text(a); s != "1.2.3.4" {
		t.Errorf("P4.1: Text of 1, 2, 3, 4: %q", s)
	}
	one := api.Addr{V6: true, B: [16]byte{15: 1}}
	if a, e := Parse("::1"); a != one || e != nil || Text(a) != "::1" {
		t.Errorf("P4.1: Parse(\"::1\"): %v, %v, as text %q", a, e, Text(a))
	}
}

// Answers that were worked out by hand, so that the patterns are held against something, too.
func TestParseByHand(t *testing.T) {
	for _, r := range []struct {
		s string
		a api.Addr
	}{
		{"0.0.0.0", api.Addr{}},
		{"1.20.255.4", api.Addr{B: [16]byte{1, 20, 255, 4}}},
		{"::", api.Addr{V6: true}},
		{"::1", api.Addr{V6: true, B: [16]byte{15: 1}}},
		{"1::", api.Addr{V6: true, B: [16]byte{1: 1}}},
		{"1200::34", api.Addr{V6: true, B: [16]byte{0: 0x12, 15: 0x34}}},
		{"aB:0:Cd09::F", api.Addr{V6: true, B: [16]byte{1: 0xab, 4: 0xcd, 5: 9, 15: 15}}},
		{"1:2:3:4:5:6:7:8", api.Addr{V6: true, B: [16]byte{0, 1, 0, 2, 0, 3, 0, 4, 0, 5, 0, 6, 0, 7, 0, 8}}},
		{"1:2:3:4::6:7:8", api.Addr{V6: true, B: [16]byte{0, 1, 0, 2, 0, 3, 0, 4, 0, 0, 0, 6, 0, 7, 0, 8}}},
	} {
		if a, e := Parse(r.s); a != r.a || e != nil {
			t.Errorf("P4.1: Parse(%q): %v, %v; want %v", r.s, a, e, r.a)
		}
		if a, right := expected(r.s); a != r.a || !right {
			t.Errorf("the tests' own address of %q: %v, %v; want %v", r.s, a, right, r.a)
		}
	}
}

func TestTextsThatAreNone(t *testing.T) {
	for _, s := range []string{
		"", " ", ".", "...", "....", "1", "1.", "1.2", "1.2.3", "1.2.3.", ".1.2.3", "1..2.3", "1.2.3.4.", ".1.2.3.4", "1.2.3.4.5", "1.2..3.4",
		"1.2.3.256", "256.1.2.3", "1.999.2.3", "1.2.1000.3", "1.2.3.00", "01.2.3.4", "1.02.3.4", "1.2.003.4", "1.2.3.0255", "1.2.3.0000000004",
		"+1.2.3.4", "-1.2.3.4", "1.2.3.-0", "1.2.3.4 ", " 1.2.3.4", "1. 2.3.4", "1.2.3.4\n", "1.2.3.4\x00", "0x1.2.3.4", "1.2.3.a", "1,2,3,4", "1_0.2.3.4", "1e1.2.3.4", "1.2.3.٤", "１.2.3.4",
		"1.2.3.18446744073709551617", "1.2.3.4/32", "1.2.3:4", "1:2.3.4.5",
		":", ":::", "::::", "1:", ":1", "1:::2", ":::1", "1:::", "::1::", "::1::2", "1::2::3", "1::2::", ":1::2", "1::2:", ":1::", "::1:", "1:2:3:4:5:6:7::8:", ":1:2:3:4:5:6:7", "1:2:3:4:5:6:7:",
		"1:2:3:4:5:6:7", "1:2:3:4:5:6:7:8:9", ":1:2:3:4:5:6:7:8", "1:2:3:4:5:6:7:8:", "1:2:3:4:5:6:7:8::", "::1:2:3:4:5:6:7:8", "1:2:3:4::5:6:7:8", "1:2:3:4:5:6:7:8:9::", "::1:2:3:4:5:6:7:8:9",
		"12345::", "00001::", "::12345", "::g", "G::", "::0x1", "::+1", "::-1", "-1::", "::1_0", ":: 1", " ::1", "::1 ", "::1\n", "::\x00", "::1.2.3.4", "1:2:3:4:5:6:1.2.3.4", "::ffff:1.2.3.4", "1.2.3.4::", "::1%a", "::1%", "[::1]", "::1/128", "::ａ", "::10000000000000001",
	} {
		if a, e := Parse(s); !isErrAddr(e) || a != (api.Addr{}) {
			t.Errorf("P4.1: Parse(%q): %v, %v; want %d", s, a, e, api.ErrAddr)
		}
		if a, right := expected(s); right {
			t.Errorf("the tests' own address of %q: %v; want none", s, a)
		}
	}
}

// Each number that has up to four digits, with and without noughts ahead, in each of the four.
func TestEveryNumber(t *testing.T) {
	for v := range 1_100 {
		for _, form := range []string{"%d", "%02d", "%03d", "%04d"} {
			n := fmt.Sprintf(form, v)
			for _, s := range []string{n + ".2.3.4", "1." + n + ".3.4", "1.2." + n + ".4", "1.2.3." + n} {
				checkParse(t, s)
			}
		}
	}
}

// Each group there is, with capitals, and with noughts ahead.
func TestEveryGroup(t *testing.T) {
	for v := range 1 << 16 {
		want := api.Addr{V6: true, B: [16]byte{1: 1, 6: byte(v >> 8), 7: byte(v), 15: 8}}
		for _, form := range []string{"1:0:0:%x::8", "1:0:0:%X::8", "1:0:0:%04x::8"} {
			s := fmt.Sprintf(form, v)
			if a, e := Parse(s); a != want || e != nil {
				t.Fatalf("P4.1: Parse(%q): %v, %v; want %v", s, a, e, want)
			}
		}
		if s := fmt.Sprintf("1:0:0:%05x::8", v); !isErrAddr(second(Parse(s))) {
			t.Fatalf("P4.1: Parse(%q) is no error", s)
		}
		if s := Text(want); s != told(want) {
			t.Fatalf("P4.1: Text of %v: %q; want %q", want, s, told(want))
		}
	}
}

func second(_ api.Addr, e error) error { return e }

// All texts of a few letters, up to so many of them.
func TestAllShortTexts(t *testing.T) {
	for _, r := range []struct {
		letters string
		most    int
	}{{"02.", 10}, {"15.", 9}, {"1:", 17}, {"0a:", 10}, {"1.:/", 7}, {"0:G", 8}} {
		all := []string{""}
		for range r.most {
			var next []string
			for _, s := range all {
				for i := range r.letters {
					next = append(next, s+r.letters[i:i+1])
				}
			}
			all = next
			for _, s := range all {
				checkParse(t, s)
			}
		}
	}
}

// "::" in each place, for each number of groups that are missing, and for none, and less than none.
func TestEveryGap(t *testing.T) {
	names := strings.Split("1:22:333:4444:5:a6:7:8b:99", ":")
	for ahead := range 10 {
		for behind := range 10 {
			checkParse(t, strings.Join(names[:ahead], ":")+"::"+strings.Join(names[:behind], ":"))
			checkParse(t, strings.Join(names[:ahead], ":")+":"+strings.Join(names[:behind], ":"))
			for third := range 4 {
				checkParse(t, strings.Join(names[:ahead], ":")+"::"+strings.Join(names[:behind], ":")+"::"+strings.Join(names[:third], ":"))
			}
		}
	}
}

// Texts near to right ones: each byte taken out, turned into each other one, and each one put in.
func TestTextsNearToRightOnes(t *testing.T) {
	for _, s := range texts() {
		checkParse(t, s)
		for at := range len(s) + 1 {
			for v := range 256 {
				checkParse(t, s[:at]+string([]byte{byte(v)})+s[at:])
				if at < len(s) {
					checkParse(t, s[:at]+string([]byte{byte(v)})+s[at+1:])
				}
			}
			if at < len(s) {
				checkParse(t, s[:at]+s[at+1:])
			}
			checkParse(t, s[:at])
			checkParse(t, s[at:])
		}
		for _, other := range texts() {
			for _, between := range []string{"", ".", ":", "::", "/", " "} {
				checkParse(t, s+between+other)
			}
		}
	}
}

func TestLongTexts(t *testing.T) {
	for _, s := range []string{"1", "0", "f", ":", "::", "1:", "0:", ".", "1.", "0.", "/", "1::", "\xff"} {
		for _, n := range []int{5, 40, 70_000, 3_000_000} {
			long := strings.Repeat(s, n)
			for _, x := range []string{long, "1.2.3." + long, long + ".2.3.4", "1.2.3.4" + long, "::" + long, long + "::", "1:2:3:4:5:6:7:" + long} {
				if a, e := Parse(x); !isErrAddr(e) || a != (api.Addr{}) {
					if want, right := expected(x); !right || a != want || e != nil {
						t.Errorf("P4.1: Parse of a text of %d bytes, %.20q ..: %v, %v", len(x), x, a, e)
					}
				}
				if p, e := ParseNet(x + "/8"); !isErrAddr(e) || p != (api.Prefix{}) {
					if want, right := expectedNet(x + "/8"); !right || p != want {
						t.Errorf("P4.2: ParseNet of a text of %d bytes, %.20q ..: %v, %v", len(x), x, p, e)
					}
				}
			}
			if p, e := ParseNet("1.2.3.4/" + long); !isErrAddr(e) || p != (api.Prefix{}) {
				t.Errorf("P4.2: ParseNet with %d bytes behind \"/\": %v, %v", len(long), p, e)
			}
		}
	}
}

// Each byte alone; the first four make version 4, whatever else stands makes it wrong there.
func TestRight(t *testing.T) {
	for at := range 16 {
		for v := range 256 {
			a := api.Addr{B: [16]byte{1, 2, 3, 4}}
			a.B[at] = byte(v)
			right := at < 4 || v == 0
			if Right(a) != right || (Text(a) == "") == right {
				t.Errorf("P4.1: of version 4, byte %d is %d: Right %v, Text %q; want %v", at, v, Right(a), Text(a), right)
			}
			if a.V6 = true; !Right(a) {
				t.Errorf("P4.1: of version 6, byte %d is %d: not Right", at, v)
			}
			checkText(t, a)
		}
	}
	for _, a := range []api.Addr{{}, {V6: true}, {B: [16]byte{255, 255, 255, 255}}} {
		checkText(t, a)
	}
}

// Groups of 0 in every combination: the longest run, the first of such, and none of one group alone.
func TestEveryRun(t *testing.T) {
	for _, v := range []byte{1, 10, 16, 255} {
		for zero := range 256 {
			for _, high := range []bool{false, true} {
				a := api.Addr{V6: true}
				for i := range 8 {
					if zero>>i&1 == 1 {
						continue
					}
					a.B[2*i+1] = v
					if high {
						a.B[2*i], a.B[2*i+1] = v, 0
					}
				}
				checkText(t, a)
			}
		}
	}
}

func TestTextByHand(t *testing.T) {
	for s, want := range map[string]string{
		"0:0:0:0:0:0:0:0": "::", "0:0:0:0:0:0:0:1": "::1", "1:0:0:0:0:0:0:0": "1::", "1:0:0:2:0:0:3:4": "1::2:0:0:3:4", "1:0:0:2:0:0:0:3": "1:0:0:2::3", "0:0:1:0:0:1:0:0": "::1:0:0:1:0:0",
		"0:1:0:1:0:1:0:1": "0:1:0:1:0:1:0:1", "1:2:3:0:5:6:7:8": "1:2:3:0:5:6:7:8", "1:2:3::5:6:7:8": "1:2:3:0:5:6:7:8", "0:0:3:4:5:6:7:8": "::3:4:5:6:7:8", "1:2:3:4:5:6:0:0": "1:2:3:4:5:6::",
		"::1:2:3:4:5:6:7": "0:1:2:3:4:5:6:7", "1:2:3:4:5:6:7::": "1:2:3:4:5:6:7:0", "ABCD:00EF::0A00": "abcd:ef::a00", "::FFFF:0102:0304": "::ffff:102:304", "1:0:0:0:2:0:0:0": "1::2:0:0:0",
	} {
		a, e := Parse(s)
		if e != nil || Text(a) != want {
			t.Errorf("P4.1: Text of what %q tells: %q, %v; want %q", s, Text(a), e, want)
		}
		if told(must(t, s)) != want {
			t.Errorf("the tests' own text of %q: %q; want %q", s, told(must(t, s)), want)
		}
	}
}

// random: bytes that look like no row, many of them 0.
func random(seed *uint32) (b [16]byte) {
	for i := range b {
		*seed = *seed*1_664_525 + 1_013_904_223
		b[i] = byte(*seed >> 24)
		if *seed>>20&3 == 0 {
			b[i] = 0
		}
	}
	return b
}

// As another program tells, and reads, what both know alike.
func TestAsAnotherProgram(t *testing.T) {
	seed := uint32(1)
	for range 5_000 {
		b := random(&seed)
		four := api.Addr{B: [16]byte{b[0], b[1], b[2], b[3]}}
		if want := netip.AddrFrom4([4]byte(b[:4])).String(); Text(four) != want {
			t.Errorf("P4.1: Text of %v: %q; want %q", four, Text(four), want)
		}
		six := api.Addr{V6: true, B: b}
		other := netip.AddrFrom16(b)
		if want := other.String(); !other.Is4In6() && Text(six) != want {
			t.Errorf("P4.1: Text of %v: %q; want %q", six, Text(six), want)
		}
		checkText(t, four)
		checkText(t, six)
		for bits := range 129 {
			if bits <= 32 {
				checkAsAnother(t, four, netip.PrefixFrom(netip.AddrFrom4([4]byte(b[:4])), bits))
			}
			checkAsAnother(t, six, netip.PrefixFrom(other, bits))
		}
	}
}

// checkAsAnother: of the net of a that is that one all calls say the same as of that.
func checkAsAnother(t *testing.T, a api.Addr, other netip.Prefix) {
	t.Helper()
	p := api.Prefix{Addr: api.Addr{V6: a.V6}, Bits: other.Bits()}
	copy(p.Addr.B[:], other.Masked().Addr().AsSlice())
	if !RightNet(p) || !In(a, p) {
		t.Errorf("P4.2: of %v: RightNet %v, %v In %v", p, RightNet(p), a, In(a, p))
	}
	if whole := (api.Prefix{Addr: a, Bits: other.Bits()}); RightNet(whole) != (a == p.Addr) {
		t.Errorf("P4.2: RightNet of %v: %v", whole, RightNet(whole))
	}
}

// expectedNet: what the promise says of ParseNet(s), by the patterns.
func expectedNet(s string) (p api.Prefix, right bool) {
	at := strings.LastIndex(s, "/")
	if at < 0 || !bits3.MatchString(s[at+1:]) {
		return api.Prefix{}, false
	}
	if p.Addr, right = expected(s[:at]); !right {
		return api.Prefix{}, false
	}
	p.Bits, _ = strconv.Atoi(s[at+1:])
	if !rightNet(p) {
		return api.Prefix{}, false
	}
	return p, true
}

// bit: one of an address, the highest of the first byte is 0.
func bit(a api.Addr, n int) bool {
	return a.B[n/8]&(1<<(7-n%8)) != 0
}

// netOf: the net of a with so many bits.
func netOf(a api.Addr, bits int) api.Prefix {
	for n := bits; n < 128; n++ {
		a.B[n/8] &^= 1 << (7 - n%8)
	}
	return api.Prefix{Addr: a, Bits: bits}
}

// rightNet: what the promise says of RightNet, bit by bit.
func rightNet(p api.Prefix) bool {
	all := 32
	if p.Addr.V6 {
		all = 128
	}
	if p.Bits < 0 || p.Bits > all {
		return false
	}
	for n := p.Bits; n < 128; n++ {
		if bit(p.Addr, n) {
			return false
		}
	}
	return true
}

// in: what the promise says of In, bit by bit; a is right.
func in(a api.Addr, p api.Prefix) bool {
	if !rightNet(p) || a.V6 != p.Addr.V6 {
		return false
	}
	for n := range p.Bits {
		if bit(a, n) != bit(p.Addr, n) {
			return false
		}
	}
	return true
}

// checkNet: RightNet and TextNet of p are what the promise says, and what is told is parsed.
func checkNet(t *testing.T, p api.Prefix) {
	t.Helper()
	right := rightNet(p)
	want := ""
	if right {
		want = fmt.Sprintf("%s/%d", Text(p.Addr), p.Bits)
	}
	if RightNet(p) != right || TextNet(p) != want {
		t.Errorf("P4.2: of %v: RightNet %v, TextNet %q; want %v, %q", p, RightNet(p), TextNet(p), right, want)
	}
	if again, e := ParseNet(TextNet(p)); right && (again != p || e != nil) {
		t.Errorf("P4.2: what TextNet told, %q, is parsed as %v, %v; want %v", want, again, e, p)
	}
}

func checkParseNet(t *testing.T, s string) {
	t.Helper()
	want, right := expectedNet(s)
	p, e := ParseNet(s)
	if right && (e != nil || p != want) {
		t.Errorf("P4.2: ParseNet(%q): %v, %v; want %v", s, p, e, want)
	}
	if !right && (!isErrAddr(e) || p != (api.Prefix{})) {
		t.Errorf("P4.2: ParseNet(%q): %v, %v; want %d", s, p, e, api.ErrAddr)
	}
}

// numbers: of bits, those that may be, those next to them, and great ones.
func numbers() []int {
	l := []int{math.MinInt, math.MinInt + 1, math.MinInt32, -256, math.MaxInt, math.MaxInt - 1, math.MaxInt - 7, math.MaxInt32, math.MaxUint32, math.MaxUint32 + 9, 1 << 62, 255, 256, 264}
	for n := -20; n < 150; n++ {
		l = append(l, n)
	}
	return l
}

// One bit alone, and that and all ahead of it, and that and all behind it, against each number of bits.
func TestRightNet(t *testing.T) {
	for _, v6 := range []bool{false, true} {
		for _, bits := range numbers() {
			checkNet(t, api.Prefix{Addr: api.Addr{V6: v6}, Bits: bits})
			for n := range 128 {
				var one, ahead, behind api.Addr
				for i := range 128 {
					v := byte(1 << (7 - i%8))
					if i == n {
						one.B[i/8] |= v
					}
					if i <= n {
						ahead.B[i/8] |= v
					}
					if i >= n {
						behind.B[i/8] |= v
					}
				}
				for _, a := range []api.Addr{one, ahead, behind} {
					a.V6 = v6
					checkNet(t, api.Prefix{Addr: a, Bits: bits})
				}
			}
		}
	}
}

func TestParseNetByHand(t *testing.T) {
	for _, r := range []struct {
		s string
		p api.Prefix
	}{
		{"0.0.0.0/0", api.Prefix{}},
		{"10.0.0.0/8", api.Prefix{Addr: api.Addr{B: [16]byte{10}}, Bits: 8}},
		{"10.0.0.0/32", api.Prefix{Addr: api.Addr{B: [16]byte{10}}, Bits: 32}},
		{"1.2.3.254/31", api.Prefix{Addr: api.Addr{B: [16]byte{1, 2, 3, 254}}, Bits: 31}},
		{"::/0", api.Prefix{Addr: api.Addr{V6: true}}},
		{"FE80::/10", api.Prefix{Addr: api.Addr{V6: true, B: [16]byte{0xfe, 0x80}}, Bits: 10}},
		{"1::1/128", api.Prefix{Addr: api.Addr{V6: true, B: [16]byte{1: 1, 15: 1}}, Bits: 128}},
		{"::/100", api.Prefix{Addr: api.Addr{V6: true}, Bits: 100}},
	} {
		if p, e := ParseNet(r.s); p != r.p || e != nil {
			t.Errorf("P4.2: ParseNet(%q): %v, %v; want %v", r.s, p, e, r.p)
		}
		if p, right := expectedNet(r.s); p != r.p || !right {
			t.Errorf("the tests' own net of %q: %v, %v; want %v", r.s, p, right, r.p)
		}
	}
	for _, s := range []string{
		"", "/", "//", "/8", "10.0.0.0", "10.0.0.0/", "10.0.0.0//8", "/10.0.0.0/8", "10.0.0.0/8/", "10.0.0.0/8/8", "10.0.0.0/33", "10.0.0.0/128", "10.0.0.0/255", "10.0.0.0/999", "10.0.0.0/1000", "10.0.0.0/264",
		"10.0.0.0/08", "10.0.0.0/008", "0.0.0.0/00", "::/000", "::/0128", "10.0.0.0/+8", "10.0.0.0/-8", "0.0.0.0/-0", "10.0.0.0/8.0", "10.0.0.0/0x8", "10.0.0.0/a", "10.0.0.0/٨", "10.0.0.0/1_0", "10.0.0.0/255.0.0.0",
		" 10.0.0.0/8", "10.0.0.0 /8", "10.0.0.0/ 8", "10.0.0.0/8 ", "10.0.0.0/8\n", "10.0.0.0/18446744073709551624", "010.0.0.0/8", "10.0.0/8", "10/8", "10.0.0.0.0/8",
		"10.0.0.1/8", "10.128.0.0/8", "128.0.0.0/0", "0.0.0.1/31", "1.2.3.4/0", "1.2.3.5/31", "::1/127", "::1/0", "8000::/0", "fe80::/8", "fe80::1/10", "::/129", "::/200", "::/1280", "1::2::/64", "10.0.0.0\\8",
	} {
		if p, e := ParseNet(s); !isErrAddr(e) || p != (api.Prefix{}) {
			t.Errorf("P4.2: ParseNet(%q): %v, %v; want %d", s, p, e, api.ErrAddr)
		}
		if p, right := expectedNet(s); right {
			t.Errorf("the tests' own net of %q: %v; want none", s, p)
		}
	}
}

// Each number of bits up to four digits, with and without noughts ahead, behind right and wrong addresses.
func TestEveryNumberOfBits(t *testing.T) {
	for _, a := range append(texts(), "128.0.0.0", "255.255.0.0", "0.0.0.1", "8000::", "ffff::", "::8000", "1.2.3", "1::2::3", "") {
		for v := -2; v < 300; v++ {
			for _, form := range []string{"%s/%d", "%s/%02d", "%s/%03d", "%s/%04d", "%s/%d/", "%s:%d", "%s/+%d", "%s/%d "} {
				checkParseNet(t, fmt.Sprintf(form, a, v))
			}
		}
		for _, v := range []string{"999", "1000", "4294967296", "4294967304", "18446744073709551616", "x", "/", ".", ""} {
			checkParseNet(t, a+"/"+v)
		}
	}
}

func TestNetsNearToRightOnes(t *testing.T) {
	for _, s := range []string{"0.0.0.0/0", "10.0.0.0/8", "1.2.3.4/32", "255.255.255.254/31", "::/0", "fe80::/10", "1:2:3:4:5:6:7:8/128"} {
		checkParseNet(t, s)
		for at := range len(s) + 1 {
			for v := range 256 {
				checkParseNet(t, s[:at]+string([]byte{byte(v)})+s[at:])
				if at < len(s) {
					checkParseNet(t, s[:at]+string([]byte{byte(v)})+s[at+1:])
				}
			}
			checkParseNet(t, s[:at])
			checkParseNet(t, s[at:])
		}
	}
}

func checkIn(t *testing.T, a api.Addr, p api.Prefix) {
	t.Helper()
	if want := in(a, p); In(a, p) != want {
		t.Errorf("P4.2: is %v In %v: %v; want %v", a, p, !want, want)
	}
}

// Of an address in a net each bit is turned: it is in as long as that bit is behind the net's.
func TestIn(t *testing.T) {
	for _, s := range []string{"0.0.0.0", "255.255.255.255", "165.90.60.195", "::", "ffff:ffff:ffff:ffff:ffff:ffff:ffff:ffff", "a55a:c33c:5aa5:3cc3:1234:8421:fedc:1248"} {
		a := must(t, s)
		all := 32
		if a.V6 {
			all = 128
		}
		for bits := range all + 1 {
			p := netOf(a, bits)
			if !In(a, p) || !In(p.Addr, p) {
				t.Errorf("P4.2: %v and %v are not both In %v", a, p.Addr, p)
			}
			for n := range all {
				other := a
				other.B[n/8] ^= 1 << (7 - n%8)
				if got := In(other, p); got != (n >= bits) {
					t.Errorf("P4.2: %v with the bit %d turned, In %v: %v", a, n, p, got)
				}
				checkIn(t, other, p)
			}
		}
	}
}

// What is alike in its bytes is not of one version by that.
func TestInOfTheOtherVersion(t *testing.T) {
	for _, s := range []string{"0.0.0.0", "1.2.3.4", "255.255.255.255"} {
		for bits := range 33 {
			a := must(t, s)
			p := netOf(a, bits)
			if !In(a, p) {
				t.Errorf("P4.2: %v is not In %v", a, p)
			}
			long, wide := a, p
			long.V6, wide.Addr.V6 = true, true
			if In(long, p) || In(a, wide) || !In(long, wide) {
				t.Errorf("P4.2: of both versions: %v, %v, %v; want false, false, true", In(long, p), In(a, wide), In(long, wide))
			}
		}
	}
}

// Of what is not right nothing is in, and it is in nothing.
func TestInOfWhatIsNotRight(t *testing.T) {
	a := api.Addr{B: [16]byte{10, 1, 2, 3}}
	for at := 4; at < 16; at++ {
		odd := a
		odd.B[at] = 1
		for bits := range 33 {
			p := netOf(a, bits)
			if In(odd, p) || !In(a, p) {
				t.Errorf("P4.2: an address with a byte %d is In %v, or one without is not", at, p)
			}
			p.Addr.B[at] = 1
			if In(odd, p) || In(a, p) {
				t.Errorf("P4.2: something is In %v", p)
			}
		}
	}
	for _, v6 := range []bool{false, true} {
		zero, ten := api.Addr{V6: v6}, api.Addr{V6: v6, B: [16]byte{10}}
		for _, bits := range numbers() {
			for _, a := range []api.Addr{zero, ten} {
				checkIn(t, zero, api.Prefix{Addr: a, Bits: bits})
				checkIn(t, ten, api.Prefix{Addr: a, Bits: bits})
			}
		}
	}
}

// Whatever was asked ahead, the same answer comes; and who writes into an answer changes no other one.
func TestAnswersHangOnArgumentsAlone(t *testing.T) {
	for range 3 {
		for _, s := range texts() {
			a, _ := Parse(s)
			a.B[3], a.V6 = 77, !a.V6
			checkParse(t, s)
			checkParseNet(t, s+"/24")
			checkParseNet(t, s+"/0")
			checkParse(t, s+"x")
		}
	}
}
