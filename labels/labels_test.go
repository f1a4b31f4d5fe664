package labels

import (
	"math"
	"slices"
	"strings"
	"testing"

	"stockade/api"
	"stockade/name"
)

// one that was added.
type one struct {
	name string
	wild bool
	id   int
}

// alone, wild: one that stands for a name by itself, one that stands for what is under it.
func alone(name string, id int) one { return one{name: name, id: id} }

func wild(name string, id int) one { return one{name: name, wild: true, id: id} }

// list: of those that are added, as one.
func list(l ...one) []one { return l }

// ids, as one.
func ids(l ...int) []int { return l }

// between: the labels of a name, found byte by byte.
func between(name string) (l []string) {
	if name == "" {
		return nil
	}
	l = []string{""}
	for i := range len(name) {
		if name[i] == '.' {
			l = append(l, "")
		} else {
			l[len(l)-1] += name[i : i+1]
		}
	}
	return l
}

// ends: are the last labels of a name those of the zone?
func ends(name, zone []string) bool {
	return len(name) >= len(zone) && slices.Equal(name[len(name)-len(zone):], zone)
}

// expected: what the promise says of Match, sentence by sentence.
func expected(l []one, s string) (w []int) {
	labels := between(s)
	under := map[int][]int{} // by how many labels they have
	for _, x := range l {
		zone := between(x.name)
		switch {
		case !x.wild && slices.Equal(zone, labels):
			w = append(w, x.id)
		case x.wild && len(zone) < len(labels) && ends(labels, zone):
			under[len(zone)] = append(under[len(zone)], x.id)
		}
	}
	for n := len(labels) - 1; n >= 0; n-- {
		w = append(w, under[n]...)
	}
	return w
}

// few: the first bytes of a name, for a test's message.
func few(s string) string { return s[:min(len(s), 100)] }

// of: a trie to which these were added, one behind the other.
func of(l ...one) *Trie {
	x := New()
	for _, a := range l {
		x.Add(a.name, a.wild, a.id)
	}
	return x
}

// check: does Match tell just these, each time?
func check(t *testing.T, x *Trie, s string, want ...int) {
	t.Helper()
	for range 2 {
		if got := x.Match(s); !slices.Equal(got, want) {
			t.Fatalf("P20.1: Match(%q) of %d bytes: %v; want %v", few(s), len(s), got, want)
		}
	}
}

// checkLen: does Len tell that, each time?
func checkLen(t *testing.T, x *Trie, want int) {
	t.Helper()
	for range 2 {
		if n := x.Len(); n != want {
			t.Fatalf("P20.1: Len: %d; want %d", n, want)
		}
	}
}

// checkAll: is what l says of each of these names what a trie of l tells?
func checkAll(t *testing.T, l []one, names []string) {
	t.Helper()
	x := of(l...)
	for _, s := range names {
		if got, want := x.Match(s), expected(l, s); !slices.Equal(got, want) {
			t.Fatalf("P20.1: Match(%q) of %+v: %v; want %v", few(s), l, got, want)
		}
	}
	checkLen(t, x, len(l))
}

// repeated: so many labels of that kind.
func repeated(label string, n int) string {
	return strings.TrimSuffix(strings.Repeat(label+".", n), ".")
}

// odd: texts that are no names, beside some that are.
func odd() []string {
	return []string{"", "a", "b", "ab", "a.b", "b.a", "x.a.b", ".", "..", "...", ".a", "a.", ".a.", "a..", "..a", "a..b", "a...b", ".a.b", "a.b.", "A", "A.b", "a.B", "A.B", "x.A.b",
		" ", "a .b", "\x00", "a\x00.b", "\xff", "a.\xff", "é.b", "É.b", "*", "*.a", "*.b", "*.a.b", "#", "x.*.b", repeated("a", 127), strings.Repeat("a", 64), strings.Repeat("a", 64) + ".b"}
}

// names: all of at most so many labels out of these.
func names(labels []string, most int) []string {
	l, last := []string{""}, []string{""}
	for n := range most {
		var next []string
		for _, s := range last {
			for _, label := range labels {
				if n > 0 {
					next = append(next, label+"."+s)
				} else {
					next = append(next, label)
				}
			}
		}
		l, last = append(l, next...), next
	}
	slices.Sort(l)
	return slices.Compact(l)
}

// orders: does something with each order of l.
func orders(l []one, do func([]one)) {
	var put func(done, left []one)
	put = func(done, left []one) {
		if len(left) == 0 {
			do(done)
		}
		for i, x := range left {
			put(append(slices.Clone(done), x), slices.Concat(left[:i], left[i+1:]))
		}
	}
	put(nil, l)
}

// random: a number below n that hangs on the seed alone.
func random(seed *uint64, n int) int {
	*seed = *seed*6_364_136_223_846_793_005 + 1_442_695_040_888_963_407
	return int(*seed >> 33 % uint64(n))
}

// within: are all of short in long, in their order?
func within(short, long []int) bool {
	for _, id := range short {
		i := slices.Index(long, id)
		if i < 0 {
			return false
		}
		long = long[i+1:]
	}
	return true
}

func TestExample(t *testing.T) {
	x := New()
	x.Add("a.b", true, 5)
	check(t, x, "c.a.b", 5)
	check(t, x, "d.c.a.b", 5)
	check(t, x, "a.b")
	checkLen(t, x, 1)
}

func TestNothingAdded(t *testing.T) {
	x := New()
	for _, s := range odd() {
		check(t, x, s)
	}
	checkLen(t, x, 0)
}

// What is not wild stands for its name alone: not for what is under it, above it, or beside it.
func TestAlone(t *testing.T) {
	x := of(alone("a.b", 7))
	check(t, x, "a.b", 7)
	for _, s := range []string{"c.a.b", "d.c.a.b", "a.a.b", ".a.b", "a.a", "b.b", "b", "a", "", "b.a", "ab", "xa.b", "a.bx", "a.b.", "a.b.c", "a..b", "A.b", "a.B", "*.a.b"} {
		check(t, x, s)
	}
	x = of(alone("a", 7))
	check(t, x, "a", 7)
	for _, s := range []string{"b.a", "a.a", ".a", "a.", "aa", "", "b", "A"} {
		check(t, x, s)
	}
}

func TestSameNameAgain(t *testing.T) {
	for _, r := range []struct {
		of     func(string, int) one
		asked  string
		others []string
	}{{alone, "a.b", []string{"c.a.b", "b"}}, {wild, "c.a.b", []string{"a.b", "b"}}} {
		for _, want := range [][]int{{3, 3}, {3, 4}, {4, 3}, {0, 0, 0}, {0, 1, 0}, {-1, 0, 1}, {1, 0, -1}, {-5, -5, -7, -6, -5}, {math.MaxInt, math.MinInt, 0, math.MinInt, math.MaxInt}, {2, 9, 2, 9, 1, 9, 2, 0, 0, 7, -3}} {
			x := New()
			for i, id := range want {
				a := r.of("a.b", id)
				x.Add(a.name, a.wild, a.id)
				check(t, x, r.asked, want[:i+1]...)
				checkLen(t, x, i+1)
			}
			for _, s := range r.others {
				check(t, x, s)
			}
		}
	}
}

// A wild one stands for all that is under it, however far, but neither for itself nor for what is above it, or has no dot there.
func TestWild(t *testing.T) {
	x := of(wild("a.b", 7))
	for _, s := range []string{"c.a.b", "d.c.a.b", "a.a.b", "a.b.a.b", ".a.b", "..a.b", "C.a.b", "*.a.b", "x." + repeated("y", 100) + ".a.b"} {
		check(t, x, s, 7)
	}
	for _, s := range []string{"a.b", "b", "a", "", "ca.b", "c.ca.b", "xa.b", "c.b", "c.a.b.", "c.a.B", "c.A.b", "c.a.bx", "c.a..b", "a.b.c", "cab", "c.ab"} {
		check(t, x, s)
	}
	x = of(wild("b", 7))
	check(t, x, "a.b", 7)
	check(t, x, ".b", 7)
	check(t, x, "b.b", 7)
	for _, s := range []string{"b", "ab", "", "b.a", "b.", "a.b.", "a.ab"} {
		check(t, x, s)
	}
}

// Both of one name: each as if the other were not there.
func TestAloneAndWild(t *testing.T) {
	orders(list(alone("a.b", 1), wild("a.b", 2), alone("c.a.b", 3), wild("b", 4)), func(l []one) {
		x := of(l...)
		check(t, x, "a.b", 1, 4)
		check(t, x, "c.a.b", 3, 2, 4)
		check(t, x, "d.c.a.b", 2, 4)
		check(t, x, "x.b", 4)
		check(t, x, "b")
		check(t, x, "a")
		check(t, x, "")
		checkLen(t, x, 4)
	})
}

// Those that are not wild come first, whenever they were added, and whatever their ids are.
func TestAloneFirst(t *testing.T) {
	x := of(wild("b", 1), wild("", 2), alone("a.b", 9), wild("b", 0), alone("a.b", -4), wild("", -9), alone("a.b", 8))
	check(t, x, "a.b", 9, -4, 8, 1, 0, 2, -9)
	orders(list(wild("", 1), wild("b", 2), wild("a.b", 3), alone("x.a.b", 4)), func(l []one) {
		check(t, of(l...), "x.a.b", 4, 3, 2, 1)
		check(t, of(l...), "a.b", 2, 1)
	})
}

// Of wild ones those with more labels come first, however many bytes they have, and of as many labels those that were added first.
func TestMoreLabelsFirst(t *testing.T) {
	orders(list(wild("", 5), wild("d", 4), wild("cccccccccc.d", 3), wild("b.cccccccccc.d", 2), wild("a.b.cccccccccc.d", 1)), func(l []one) {
		x := of(l...)
		check(t, x, "x.a.b.cccccccccc.d", 1, 2, 3, 4, 5)
		check(t, x, "y.x.a.b.cccccccccc.d", 1, 2, 3, 4, 5)
		check(t, x, "a.b.cccccccccc.d", 2, 3, 4, 5)
		check(t, x, "x.b.cccccccccc.d", 2, 3, 4, 5)
		check(t, x, "b.cccccccccc.d", 3, 4, 5)
		check(t, x, "x.cccccccccc.d", 3, 4, 5)
		check(t, x, "cccccccccc.d", 4, 5)
		check(t, x, "x.d", 4, 5)
		check(t, x, "d", 5)
		check(t, x, "x", 5)
		check(t, x, "")
	})
}

func TestAsManyLabels(t *testing.T) {
	x := of(wild("b", 5), wild("a.b", 9), wild("b", 3), wild("a.b", 1), wild("c", 2), wild("b", 4), wild("a.c", 6), wild("a.b", 9), wild("", 8), wild("b", 3), wild("", 7))
	check(t, x, "x.a.b", 9, 1, 9, 5, 3, 4, 3, 8, 7)
	check(t, x, "a.b", 5, 3, 4, 3, 8, 7)
	check(t, x, "x.a.c", 6, 2, 8, 7)
	check(t, x, "a.c", 2, 8, 7)
	check(t, x, "b", 8, 7)
	check(t, x, "")
}

// Everything but "" is under "".
func TestRoot(t *testing.T) {
	x := of(wild("", 7))
	for _, s := range odd() {
		if s == "" {
			check(t, x, s)
		} else {
			check(t, x, s, 7)
		}
	}
	x = of(alone("", 7))
	for _, s := range odd() {
		if s == "" {
			check(t, x, s, 7)
		} else {
			check(t, x, s)
		}
	}
	x = of(wild("", 1), alone("", 2), wild("", 3), alone("", 4))
	check(t, x, "", 2, 4)
	check(t, x, "a", 1, 3)
	check(t, x, "a.b", 1, 3)
	check(t, x, ".", 1, 3)
}

// What is no name has labels, too: "" has none, "." two that are empty.
func TestNoNames(t *testing.T) {
	for _, r := range []struct {
		name         string
		under, apart []string
	}{
		{"a..b", []string{"x.a..b", ".a..b", "a.a..b"}, []string{"a.b", "x.a.b", "b", ".b", "a...b", "..b", "a..b.", "ca..b", "", "."}},
		{".", []string{"a..", "...", "a.b..", "x..", "a..."}, []string{"", "a", "a.", ".a", "x", "..a"}},
		{".a", []string{"x..a", "..a", "b.x..a"}, []string{"a", "x.a", "a.a", ".a.", "", ".b.a"}},
		{"a.", []string{"x.a.", ".a.", "b.x.a."}, []string{"a", "xa.", ".", "x.", "", "a..", "x.a"}},
		{"A.b", []string{"x.A.b", ".A.b", "a.A.b"}, []string{"a.b", "A.B", "a.B", "x.a.b", "x.A.B", "b", "xA.b"}},
		{"a.\xff", []string{"x.a.\xff", "é.a.\xff"}, []string{"a.\xfe", "\xff", "a.ÿ", "x.a.\xfe", "a.\xff\xff", "a.\ufffd"}},
		{" ", []string{"a. ", ". ", " . "}, []string{"", "a", " a", "a ", "  ", "\t"}},
	} {
		x := of(alone(r.name, 1), wild(r.name, 2))
		check(t, x, r.name, 1)
		for _, s := range r.under {
			check(t, x, s, 2)
		}
		for _, s := range r.apart {
			check(t, x, s)
		}
	}
}

// Each of the odd texts by itself, and two of them, asked for by each.
func TestOddNames(t *testing.T) {
	all := odd()
	for _, a := range all {
		for _, l := range [][]one{list(alone(a, 1)), list(wild(a, 1))} {
			checkAll(t, l, all)
		}
		for _, b := range all {
			checkAll(t, list(wild(a, 1), alone(b, 2), wild(b, 3), alone(a, 4), wild(a, 5)), all)
		}
	}
}

// Every name of a few labels, held against every other one, and against what package name says.
func TestEveryName(t *testing.T) {
	all := names([]string{"", "a", "A", "aa"}, 4)
	for _, a := range all {
		x := of(wild(a, 1), alone(a, 2))
		for _, s := range all {
			var want []int
			switch {
			case s == a:
				want = ids(2)
			case name.Under(s, a):
				want = ids(1)
			}
			if !slices.Equal(want, expected(list(wild(a, 1), alone(a, 2)), s)) {
				t.Fatalf("the tests' own words of %q and %q: want %v", a, s, want)
			}
			if got := x.Match(s); !slices.Equal(got, want) {
				t.Fatalf("P20.1: Match(%q) of %q: %v; want %v", s, a, got, want)
			}
		}
	}
}

// All of them at once, in one order and in the other.
func TestAllNames(t *testing.T) {
	all := names([]string{"", "a", "b"}, 4)
	var l []one
	for i, s := range all {
		l = append(l, wild(s, i), alone(s, -i), wild(s, i+1000))
	}
	checkAll(t, l, all)
	slices.Reverse(l)
	checkAll(t, l, all)
}

// Long names: of as many labels as a name may have, and of many more.
func TestManyLabels(t *testing.T) {
	if n := len(between(repeated("a", 127))); n != 127 || !name.Right(repeated("a", 127)) || name.Right(repeated("a", 128)) {
		t.Fatalf("the tests' own name has %d labels", n)
	}
	for _, n := range []int{1, 2, 126, 127, 128, 500, 20_000} {
		for _, label := range []string{"a", ""} {
			behind := "." + label
			s := "z" + strings.Repeat(behind, n)
			shorter, other := strings.TrimPrefix(s, "z."), "y"+s[1:]
			l := list(alone(s, 1), wild(s, 2), wild("", 3), wild(shorter, 4), alone(shorter, 5))
			checkAll(t, l, []string{s, shorter, other, "x." + s, "x.y." + s, "x" + s, "x." + shorter, s + ".", s + behind, s + "b", "z." + s, "z", ""})
			check(t, of(l[:2]...), s, 1)
			check(t, of(l[:2]...), "x."+s, 2)
			check(t, of(l[:2]...), other)
			check(t, of(l[:2]...), shorter)
			check(t, of(l[:2]...), s+behind)
		}
	}
	// Long ones asked of what has few labels, and the other way round.
	x := of(wild("b", 1), alone("b", 2))
	check(t, x, repeated("a", 200_000)+".b", 1)
	check(t, x, repeated("a", 200_000))
	x.Add(repeated("b", 200_000), false, 3)
	x.Add(repeated("b", 200_000), true, 4)
	check(t, x, "b", 2)
	check(t, x, repeated("b", 2), 1)
	check(t, x, repeated("b", 199_999), 1)
	check(t, x, repeated("b", 200_000), 3, 1)
	check(t, x, repeated("b", 200_001), 4, 1)
	long := strings.Repeat("c", 1<<20)
	x.Add(long, true, 5)
	check(t, x, "a."+long, 5)
	check(t, x, "a"+long)
	check(t, x, long)
}

// Every end of a name of 127 labels stands for it, those with more labels first.
func TestEveryEnd(t *testing.T) {
	s := repeated("a", 127)
	x, want := New(), ids()
	x.Add(s, false, 500)
	for n := range 127 {
		x.Add(repeated("a", n), true, n)
		want = append(want, n)
	}
	slices.Reverse(want)
	check(t, x, s, append(ids(500), want...)...)
	check(t, x, s[2:], want[1:]...)
	check(t, x, "a."+s, want...)
	check(t, x, "b."+s, want...)
	check(t, x, "b."+s[2:], want...)
	check(t, x, "ba."+s[4:], want[1:]...)
	check(t, x, s[:252]+"b", 0)
}

// In which order names were added plays no part, but for those with as many labels.
func TestInWhateverOrder(t *testing.T) {
	l := list(wild("b", 1), wild("a.b", 2), alone("x.a.b", 3), wild("", 4), alone("a.b", 5), alone("", 6))
	orders(l, func(l []one) {
		x := of(l...)
		check(t, x, "x.a.b", 3, 2, 1, 4)
		check(t, x, "y.x.a.b", 2, 1, 4)
		check(t, x, "a.b", 5, 1, 4)
		check(t, x, "b", 4)
		check(t, x, "", 6)
		checkLen(t, x, 6)
	})
	orders(list(wild("b", 1), wild("b", 2), alone("a.b", 3), alone("a.b", 4), wild("", 5)), func(l []one) {
		var wilds, alones []int
		for _, a := range l {
			switch {
			case a.wild && a.name == "b":
				wilds = append(wilds, a.id)
			case !a.wild:
				alones = append(alones, a.id)
			}
		}
		check(t, of(l...), "a.b", slices.Concat(alones, wilds, ids(5))...)
	})
}

// What was matched ahead is matched still, in its order, and nothing else is but what was added.
func TestTakesNothingAway(t *testing.T) {
	seed := uint64(20)
	all := append(names([]string{"", "a", "b"}, 3), names([]string{"b", "C"}, 5)...)
	for range 20 {
		x, l, told := New(), list(), map[string][]int{}
		for id := range 60 {
			a := one{all[random(&seed, len(all))], random(&seed, 2) == 0, id}
			x.Add(a.name, a.wild, a.id)
			l = append(l, a)
			checkLen(t, x, len(l))
			for _, s := range all {
				got := x.Match(s)
				if want := expected(l, s); !slices.Equal(got, want) {
					t.Fatalf("P20.1: Match(%q) of %+v: %v; want %v", s, l, got, want)
				}
				if more := len(got) - len(told[s]); !within(told[s], got) || more < 0 || more > 1 {
					t.Fatalf("P20.1: Match(%q) behind %+v: %v; ahead of that it was %v", s, a, got, told[s])
				}
				told[s] = got
			}
		}
	}
}

// Against the promise's words, with few ids, so that many are the same.
func TestAgainstAPlainList(t *testing.T) {
	seed := uint64(1)
	all := append(odd(), names([]string{"", "a", "b", "B", "ab"}, 3)...)
	for n := range 150 {
		var l []one
		for range random(&seed, n+1) {
			l = append(l, one{all[random(&seed, len(all))], random(&seed, 3) > 0, random(&seed, 5) - 2})
		}
		checkAll(t, l, all)
	}
}

// As many as there may be rules, and more, with names of one end.
func TestMany(t *testing.T) {
	x, want := New(), ids()
	for i := range 10 * api.MaxRules {
		s := repeated("a", 1+i%3) + "." + strings.Repeat("b", i) + ".c"
		x.Add(s, false, i)
		x.Add(s, true, -i)
		x.Add("c", true, i*i)
		want = append(want, i*i)
	}
	checkLen(t, x, 30*api.MaxRules)
	for i := range 10 * api.MaxRules {
		s := repeated("a", 1+i%3) + "." + strings.Repeat("b", i) + ".c"
		if got := x.Match(s); len(got) != 1+len(want) || got[0] != i || !slices.Equal(got[1:], want) {
			t.Fatalf("P20.1: Match of the name %d: %d ids; want %d", i, len(got), 1+len(want))
		}
		if got := x.Match("x." + s); len(got) != 1+len(want) || got[0] != -i || !slices.Equal(got[1:], want) {
			t.Fatalf("P20.1: Match under the name %d: %d ids; want %d", i, len(got), 1+len(want))
		}
	}
}

func TestLen(t *testing.T) {
	x := New()
	for i, a := range list(alone("a", 1), alone("a", 1), alone("a", 2), wild("a", 1), wild("a", 1), wild("", 0), alone("", 0), alone(".", -1), wild("a.b.c.d", 4), alone("c.d", 4), wild("a..b", 4), alone("A", 1)) {
		checkLen(t, x, i)
		x.Add(a.name, a.wild, a.id)
		checkLen(t, x, i+1)
		// Who asks adds nothing.
		for _, s := range odd() {
			x.Match(s)
		}
		checkLen(t, x, i+1)
	}
}

// nodes: how many ends of names the trie keeps from that one on.
func nodes(n *node) int {
	all := 1
	for _, next := range n.ahead {
		all += nodes(next)
	}
	return all
}

// Who asks turns nothing: what is asked for is not there by that, nor kept.
func TestMatchTurnsNothing(t *testing.T) {
	x := of(wild("b", 1))
	for range 3 {
		for _, s := range odd() {
			check(t, x, s, expected(list(wild("b", 1)), s)...)
		}
		checkLen(t, x, 1)
	}
	if n := nodes(&x.root); n != 2 {
		t.Errorf("P20.1: what was asked for is kept: %d ends; want 2", n)
	}
	x.Add("a.b", false, 2)
	check(t, x, "a.b", 2, 1)
	check(t, x, "x.a.b", 1)
}

// Two that were made apart know nothing of each other, also while both grow.
func TestTwoTries(t *testing.T) {
	seed := uint64(3)
	all := names([]string{"a", "b"}, 4)
	x, y := New(), New()
	var ofX, ofY []one
	for id := range 80 {
		a := one{all[random(&seed, len(all))], random(&seed, 2) == 0, id}
		if random(&seed, 2) == 0 {
			x.Add(a.name, a.wild, a.id)
			ofX = append(ofX, a)
		} else {
			y.Add(a.name, a.wild, a.id)
			ofY = append(ofY, a)
		}
		for _, s := range all {
			check(t, x, s, expected(ofX, s)...)
			check(t, y, s, expected(ofY, s)...)
			check(t, New(), s)
		}
		checkLen(t, x, len(ofX))
		checkLen(t, y, len(ofY))
		checkLen(t, New(), 0)
	}
	// What two were given alike is told alike.
	ofX, ofY = append(ofX, ofY...), append(ofX, ofY...)
	x, y = of(ofX...), of(ofY...)
	for _, s := range all {
		check(t, x, s, y.Match(s)...)
	}
}

// What Match tells, with the room behind its end, is the caller's: who writes there turns nothing.
func TestMatchIsNew(t *testing.T) {
	l := list(alone("a.b", 1), alone("a.b", 2), alone("a.b", 3), wild("b", 4), wild("b", 5), wild("b", 6), wild("", 7), wild("a.b", 8), alone("b", 9), wild("", 10), wild("", 11), alone("", 12), alone("", 13), alone("", 14))
	asked := []string{"a.b", "x.a.b", "b", "x.b", "x", ""}
	x := of(l...)
	for _, s := range asked {
		got := x.Match(s)
		_ = append(got, 77, 78, 79)
		got = got[:cap(got)]
		for i := range got {
			got[i] = 66
		}
		for _, s := range asked {
			check(t, x, s, expected(l, s)...)
		}
	}
	// Nor does what is added behind come up there.
	for _, s := range asked {
		x.Match(s)
		grown := append(x.Match(s), 66)
		for _, a := range list(alone(s, 20), wild(s, 21), alone("a.b", 22), wild("b", 23), wild("", 24)) {
			x.Add(a.name, a.wild, a.id)
			l = append(l, a)
		}
		if grown[len(grown)-1] != 66 {
			t.Fatalf("R3: behind what Match(%q) told stands what was added: %v", s, grown)
		}
	}
	for _, s := range asked {
		check(t, x, s, expected(l, s)...)
	}
}

// What was told ahead is turned by nothing that is added, nor by what is asked.
func TestToldStays(t *testing.T) {
	x := New()
	type answer struct{ got, was []int }
	var told []answer
	asked := []string{"a.b", "x.a.b", "b", "", "x"}
	for id := range 40 {
		for i, s := range []string{"a.b", "b", ""} {
			x.Add(s, (id+i)%2 == 0, 3*id+i)
		}
		for _, s := range asked {
			got := x.Match(s)
			told = append(told, answer{got, slices.Clone(got)})
		}
		for _, a := range told {
			if !slices.Equal(a.got, a.was) {
				t.Fatalf("R3: what Match told is turned: %v; it was %v", a.got, a.was)
			}
		}
	}
}

func TestNilTrie(t *testing.T) {
	var x *Trie
	for range 2 {
		for _, s := range odd() {
			x.Add(s, true, 1)
			x.Add(s, false, 2)
			if l := x.Match(s); len(l) > 0 {
				t.Errorf("P20.1: Match(%q) of a nil trie: %v", s, l)
			}
			if n := x.Len(); n != 0 {
				t.Errorf("P20.1: Len of a nil trie: %d", n)
			}
		}
	}
	// It was no other one that they were added to.
	check(t, New(), "a.b")
	checkLen(t, New(), 0)
}

// The zero value of the type is as good as a new one.
func TestZeroValue(t *testing.T) {
	var x Trie
	check(t, &x, "a.b")
	check(t, &x, "")
	checkLen(t, &x, 0)
	x.Add("a.b", true, 5)
	x.Add("", false, 6)
	check(t, &x, "c.a.b", 5)
	check(t, &x, "a.b")
	check(t, &x, "", 6)
	checkLen(t, &x, 2)
}
