package chain

import (
	"bytes"
	"math"
	"slices"
	"strconv"
	"strings"
	"testing"

	"stockade/api"
	"stockade/dnsmsg"
)

// answer of Follow.
type answer struct {
	found []api.Found
	names []string
}

// v4, v6: addresses that begin with these bytes.
func v4(b ...byte) (a api.Addr) {
	copy(a.B[:], b)
	return a
}

func v6(b ...byte) (a api.Addr) {
	a.V6 = true
	copy(a.B[:], b)
	return a
}

// says: a record that tells an address of a name.
func says(name string, a api.Addr, left uint32) api.Record {
	kind := 1
	if a.V6 {
		kind = 28
	}
	return api.Record{Name: name, Type: kind, Class: 1, Ttl: left, Addr: a}
}

// leads: a record by which a name leads to another.
func leads(name, target string, left uint32) api.Record {
	return api.Record{Name: name, Type: 5, Class: 1, Ttl: left, Target: target}
}

// turned: r of another type and class.
func turned(r api.Record, kind, class int) api.Record {
	r.Type, r.Class = kind, class
	return r
}

// list: records, as one.
func list(l ...api.Record) []api.Record { return l }

// found: an address, and for how long.
func found(a api.Addr, left uint32) api.Found { return api.Found{Addr: a, Ttl: left} }

// of: what is found from these names on.
func of(names []string, l ...api.Found) answer { return answer{found: l, names: names} }

// line: n names, each of which leads to the next one.
func line(n int) ([]api.Record, []string) {
	var l []api.Record
	names := []string{"n0"}
	for i := 1; i < n; i++ {
		names = append(names, "n"+strconv.Itoa(i))
		l = append(l, leads(names[i-1], names[i], 100))
	}
	return l, names
}

// sameRecord: are all fields, and all bytes, the same?
func sameRecord(r, s api.Record) bool {
	return r.Name == s.Name && r.Type == s.Type && r.Class == s.Class && r.Ttl == s.Ttl && r.Addr == s.Addr && r.Target == s.Target && bytes.Equal(r.Data, s.Data)
}

// sameMessage: are all fields, and all that is in the lists, the same?
func sameMessage(m, n api.Message) bool {
	return m.Id == n.Id && m.Reply == n.Reply && m.Opcode == n.Opcode && m.Code == n.Code && m.Flags == n.Flags && slices.Equal(m.Questions, n.Questions) &&
		slices.EqualFunc(m.Answers, n.Answers, sameRecord) && slices.EqualFunc(m.Authority, n.Authority, sameRecord) && slices.EqualFunc(m.Extra, n.Extra, sameRecord)
}

// copied: m with lists, and bytes, of its own.
func copied(m api.Message) api.Message {
	m.Questions = slices.Clone(m.Questions)
	for _, l := range []*[]api.Record{&m.Answers, &m.Authority, &m.Extra} {
		*l = slices.Clone(*l)
		for i := range *l {
			(*l)[i].Data = bytes.Clone((*l)[i].Data)
		}
	}
	return m
}

func same(a, b answer) bool {
	return slices.Equal(a.found, b.found) && slices.Equal(a.names, b.names)
}

func follow(m api.Message, name string) answer {
	f, names := Follow(m, name)
	return answer{found: f, names: names}
}

// expected: what the promise says of Follow, sentence by sentence.
func expected(l []api.Record, name string) answer {
	names, led := []string{name}, []uint32{}
	for i := 0; i < len(l); i++ {
		r := l[i]
		if r.Name != names[len(names)-1] || r.Type != 5 || r.Class != 1 {
			continue
		}
		for _, s := range names {
			if s == r.Target {
				return answer{}
			}
		}
		if len(names)+1 > 16 {
			return answer{}
		}
		// The next one is looked for among all, from the first one on.
		names, led, i = append(names, r.Target), append(led, r.Ttl), -1
	}
	w := answer{names: names}
	there := map[api.Addr]int{}
	for _, r := range l {
		if r.Name != names[len(names)-1] || r.Class != 1 || r.Type != 1 && r.Type != 28 {
			continue
		}
		there[r.Addr]++
		if there[r.Addr] == 1 {
			all := append([]uint32{r.Ttl}, led...)
			slices.Sort(all)
			w.found = append(w.found, api.Found{Addr: r.Addr, Ttl: all[0]})
		}
	}
	return w
}

// check: is Follow of these answers, from name on, what is wanted, each time, and do they stay as they are?
func check(t *testing.T, l []api.Record, name string, want answer) {
	t.Helper()
	m := copied(api.Message{Answers: l})
	for range 2 {
		if got := follow(m, name); !same(got, want) {
			t.Fatalf("P15.1: Follow of %+v from %q on: %v; want %v", l, name, got, want)
		}
	}
	if !slices.EqualFunc(m.Answers, l, sameRecord) {
		t.Fatalf("R3: what was handed in was changed: %+v; it was %+v", m.Answers, l)
	}
}

// checkAny: the same, by the promise's words.
func checkAny(t *testing.T, l []api.Record, name string) {
	t.Helper()
	check(t, l, name, expected(l, name))
}

// orders: does something with each order of l.
func orders(l []api.Record, do func([]api.Record)) {
	var put func(done, left []api.Record)
	put = func(done, left []api.Record) {
		if len(left) == 0 {
			do(done)
		}
		for i, r := range left {
			put(append(slices.Clone(done), r), slices.Concat(left[:i], left[i+1:]))
		}
	}
	put(nil, l)
}

func TestExample(t *testing.T) {
	for _, s := range []string{"example.org", "a", ""} {
		if f, names := Follow(api.Message{}, s); f != nil || !slices.Equal(names, []string{s}) {
			t.Errorf("P15.1: Follow of no answers: %v, %q; want nothing, and %q", f, names, s)
		}
		check(t, []api.Record{}, s, of([]string{s}))
	}
}

func TestNamesOfNoRecord(t *testing.T) {
	l := list(says("a", v4(1), 9), leads("b", "a", 8), says("", v6(1), 7), leads("c", "d", 6))
	for _, s := range []string{"x", "aa", "a.b", "d", "ab"} {
		check(t, l, s, of([]string{s}))
	}
	check(t, l, "a", of([]string{"a"}, found(v4(1), 9)))
	check(t, l, "b", of([]string{"b", "a"}, found(v4(1), 8)))
	check(t, l, "", of([]string{""}, found(v6(1), 7)))
	// It leads to one that nothing is told of.
	check(t, l, "c", of([]string{"c", "d"}))
}

func TestOneStep(t *testing.T) {
	orders(list(leads("a", "b", 9), says("b", v4(1, 2, 3, 4), 10), says("c", v4(5), 1)), func(l []api.Record) {
		check(t, l, "a", of([]string{"a", "b"}, found(v4(1, 2, 3, 4), 9)))
		check(t, l, "b", of([]string{"b"}, found(v4(1, 2, 3, 4), 10)))
	})
	check(t, list(leads("a", "", 9), says("", v4(1), 9)), "a", of([]string{"a", ""}, found(v4(1), 9)))
	check(t, list(leads("", "a", 9), says("a", v4(1), 9)), "", of([]string{"", "a"}, found(v4(1), 9)))
}

// However the records stand, the way is the same one, from each name on it.
func TestSeveralSteps(t *testing.T) {
	names := []string{"a", "b", "c", "d"}
	orders(list(leads("a", "b", 40), leads("b", "c", 30), leads("c", "d", 20), says("d", v6(7), 50), says("d", v6(7), 50)), func(l []api.Record) {
		check(t, l, "a", of(names, found(v6(7), 20)))
		check(t, l, "b", of(names[1:], found(v6(7), 20)))
		check(t, l, "c", of(names[2:], found(v6(7), 20)))
		check(t, l, "d", of(names[3:], found(v6(7), 50)))
	})
}

// Of several addresses the order is that of their records.
func TestOrderOfAddresses(t *testing.T) {
	orders(list(says("a", v4(3), 1), says("a", v6(2), 2), says("a", v4(1), 3), leads("x", "a", 2)), func(l []api.Record) {
		var want, led []api.Found
		for _, r := range l {
			if r.Type != 5 {
				want, led = append(want, found(r.Addr, r.Ttl)), append(led, found(r.Addr, min(2, r.Ttl)))
			}
		}
		check(t, l, "a", of([]string{"a"}, want...))
		check(t, l, "x", of([]string{"x", "a"}, led...))
	})
}

// Of several records that lead on from one name the first one counts, also where another one leads to an address, or nowhere.
func TestSeveralThatLeadOn(t *testing.T) {
	there := list(says("b", v4(2), 99), says("c", v4(3), 99))
	check(t, slices.Concat(there, list(leads("a", "b", 9), leads("a", "c", 8))), "a", of([]string{"a", "b"}, found(v4(2), 9)))
	check(t, slices.Concat(there, list(leads("a", "c", 9), leads("a", "b", 8))), "a", of([]string{"a", "c"}, found(v4(3), 9)))
	check(t, slices.Concat(list(leads("a", "b", 9)), there, list(leads("a", "b", 8))), "a", of([]string{"a", "b"}, found(v4(2), 9)))
	check(t, slices.Concat(list(leads("a", "b", 9)), there, list(leads("a", "a", 8))), "a", of([]string{"a", "b"}, found(v4(2), 9)))
	check(t, slices.Concat(list(leads("a", "a", 9)), there, list(leads("a", "b", 8))), "a", answer{})
	check(t, slices.Concat(list(leads("a", "x", 9)), there, list(leads("a", "b", 8))), "a", of([]string{"a", "x"}))
	// Of the second name on the way, too.
	check(t, slices.Concat(list(leads("y", "b", 9), leads("y", "c", 1), leads("x", "y", 7)), there), "x", of([]string{"x", "y", "b"}, found(v4(2), 7)))
	// The first one of that class.
	check(t, slices.Concat(list(turned(leads("a", "c", 1), 5, 3), turned(leads("a", "c", 1), 2, 1), leads("b", "c", 1), leads("a", "c", 9), leads("a", "b", 8)), there), "a", of([]string{"a", "c"}, found(v4(3), 9)))
}

func TestClasses(t *testing.T) {
	for _, class := range []int{0, 2, 3, 4, 254, 255, 256, 257, 32_769, 65_535, 65_536, 65_537, -1, math.MaxInt, math.MinInt, math.MinInt + 1} {
		lost := turned(leads("a", "b", 9), 5, class)
		four, six := turned(says("a", v4(1), 9), 1, class), turned(says("a", v6(1), 9), 28, class)
		check(t, list(lost, four, six, says("b", v4(2), 9)), "a", of([]string{"a"}))
		// Such a one does not hide one of that class behind it, neither shortens it.
		check(t, list(lost, turned(says("b", v4(1), 1), 1, class), leads("a", "b", 10), says("b", v4(1), 11)), "a", of([]string{"a", "b"}, found(v4(1), 10)))
		check(t, list(four, says("a", v4(1), 11)), "a", of([]string{"a"}, found(v4(1), 11)))
		check(t, list(six, says("a", v6(1), 11), four), "a", of([]string{"a"}, found(v6(1), 11)))
		// Nor is it a circle, or too long.
		check(t, list(turned(leads("a", "a", 9), 5, class), says("a", v4(1), 9)), "a", of([]string{"a"}, found(v4(1), 9)))
	}
}

func TestTypes(t *testing.T) {
	for _, kind := range []int{0, 2, 3, 4, 6, 12, 15, 16, 27, 29, 33, 39, 41, 255, 257, 261, 284, 65_535, 65_537, 65_541, 65_564, -1, -5, math.MaxInt, math.MinInt} {
		lost := turned(leads("a", "b", 9), kind, 1)
		other := turned(says("a", v4(1), 9), kind, 1)
		check(t, list(lost, other, says("b", v4(2), 9)), "a", of([]string{"a"}))
		check(t, list(lost, leads("a", "c", 10), turned(says("c", v4(1), 1), kind, 1), says("c", v4(1), 11)), "a", of([]string{"a", "c"}, found(v4(1), 10)))
	}
	// One with an address leads nowhere, and one that leads on has none.
	odd := api.Record{Name: "a", Class: 1, Ttl: 9, Addr: v4(7), Target: "b"}
	for _, kind := range []int{1, 28} {
		check(t, list(turned(odd, kind, 1), says("b", v4(2), 9)), "a", of([]string{"a"}, found(v4(7), 9)))
	}
	check(t, list(turned(odd, 5, 1), says("b", v4(2), 9)), "a", of([]string{"a", "b"}, found(v4(2), 9)))
	check(t, list(turned(odd, 5, 1), leads("b", "c", 9)), "a", of([]string{"a", "b", "c"}))
}

func TestCircles(t *testing.T) {
	for _, rest := range [][]api.Record{nil, list(says("a", v4(1), 9), says("b", v4(2), 9), says("c", v4(3), 9), says("", v4(4), 9))} {
		// Of one.
		check(t, slices.Concat(list(leads("a", "a", 9)), rest), "a", answer{})
		check(t, slices.Concat(list(leads("", "", 9)), rest), "", answer{})
		// Of several: each of them leads back.
		orders(list(leads("a", "b", 9), leads("b", "c", 9), leads("c", "a", 9)), func(l []api.Record) {
			for _, s := range []string{"a", "b", "c"} {
				check(t, slices.Concat(l, rest), s, answer{})
				check(t, slices.Concat(rest, l), s, answer{})
			}
		})
		// One that does not come to the first name.
		for _, back := range []string{"a", "b", "c"} {
			orders(list(leads("x", "a", 9), leads("a", "b", 9), leads("b", "c", 9), leads("c", back, 9)), func(l []api.Record) {
				check(t, slices.Concat(rest, l), "x", answer{})
			})
		}
		check(t, slices.Concat(list(leads("a", "b", 9), leads("b", "b", 9)), rest), "a", answer{})
	}
	// A circle beside the way plays no part.
	check(t, list(leads("x", "y", 9), leads("y", "x", 9), leads("a", "b", 9), says("b", v4(1), 9)), "a", of([]string{"a", "b"}, found(v4(1), 9)))
	check(t, list(leads("x", "b", 9), leads("a", "b", 9), leads("y", "a", 9), says("b", v4(1), 9)), "a", of([]string{"a", "b"}, found(v4(1), 9)))
}

func TestAsManyNamesAsMayBe(t *testing.T) {
	for n := 1; n <= 40; n++ {
		l, names := line(n)
		last := names[n-1]
		l = append(l, says(last, v4(1), 200), says("n0", v4(9), 200), says(last, v6(1), 50))
		backwards := slices.Clone(l)
		slices.Reverse(backwards)
		for from := range names {
			left := names[from:]
			if len(left) > 16 {
				check(t, l, names[from], answer{})
				check(t, backwards, names[from], answer{})
				continue
			}
			least := uint32(100)
			if len(left) == 1 {
				least = 200
			}
			if n > 1 {
				check(t, l, names[from], of(left, found(v4(1), least), found(v6(1), 50)))
				check(t, backwards, names[from], of(left, found(v6(1), 50), found(v4(1), least)))
			}
		}
		// The last of them leads back: to each of them, or to itself.
		for _, s := range names {
			check(t, append(slices.Clone(l), leads(last, s, 9)), "n0", answer{})
		}
	}
	if l, names := line(16); !same(follow(api.Message{Answers: l}, "n0"), of(names)) {
		t.Errorf("P15.1: Follow of %d names that lead on: %v; want all, and nothing found", api.MaxChain, follow(api.Message{Answers: l}, "n0"))
	}
	l, _ := line(17)
	check(t, l, "n0", answer{})
	// One name more that is no record's, or is led to from elsewhere, is none of the way.
	l, names := line(16)
	check(t, append(l, leads("m", "n15", 9), says("n16", v4(1), 9), leads("n16", "n17", 9)), "n0", of(names))
	// The sixteenth name leads on by a record that does not count.
	check(t, append(slices.Clone(l), turned(leads("n15", "n16", 9), 5, 2), says("n15", v4(1), 9)), "n0", of(names, found(v4(1), 9)))
}

// Addresses of names ahead of the last one are not found, not even where the last one has none.
func TestAddressesOfNamesAhead(t *testing.T) {
	ahead := list(says("a", v4(1), 9), says("b", v6(2), 9), leads("a", "b", 9), leads("b", "c", 9), says("a", v6(3), 1), says("b", v4(4), 1))
	check(t, ahead, "a", of([]string{"a", "b", "c"}))
	check(t, append(slices.Clone(ahead), says("c", v4(4), 8)), "a", of([]string{"a", "b", "c"}, found(v4(4), 8)))
	// Nor do they hide the same one of the last one, or shorten it.
	check(t, append(slices.Clone(ahead), says("c", v6(3), 12), says("c", v4(1), 7)), "a", of([]string{"a", "b", "c"}, found(v6(3), 9), found(v4(1), 7)))
	check(t, ahead[:2], "a", of([]string{"a"}, found(v4(1), 9)))
}

// An address is found once, where it stands first, for so long as that record says, longer or shorter than the others.
func TestAddressInSeveralRecords(t *testing.T) {
	check(t, list(says("a", v4(1), 5), says("a", v4(1), 9)), "a", of([]string{"a"}, found(v4(1), 5)))
	check(t, list(says("a", v4(1), 9), says("a", v4(1), 5)), "a", of([]string{"a"}, found(v4(1), 9)))
	check(t, list(says("a", v4(1), 9), says("a", v4(1), 0), says("a", v4(1), math.MaxUint32)), "a", of([]string{"a"}, found(v4(1), 9)))
	check(t, list(says("a", v4(1), 9), says("a", v6(2), 7), says("a", v4(1), 5), says("a", v6(2), 8), says("a", v4(3), 1), says("a", v4(1), 2)), "a", of([]string{"a"}, found(v4(1), 9), found(v6(2), 7), found(v4(3), 1)))
	check(t, list(leads("x", "a", 6), says("a", v4(1), 9), says("a", v4(1), 5)), "x", of([]string{"x", "a"}, found(v4(1), 6)))
	// One whose Ttl is 0 is found, too, and hides the others.
	check(t, list(says("a", v4(1), 0), says("a", v4(1), 5)), "a", of([]string{"a"}, found(v4(1), 0)))
	check(t, list(says("a", v4(), 4), says("a", v4(), 5), says("a", v6(), 6), says("a", v6(), 5)), "a", of([]string{"a"}, found(v4(), 4), found(v6(), 6)))
	var l []api.Record
	for range api.MaxRecords {
		l = append(l, says("a", v4(1), uint32(64-len(l))))
	}
	check(t, l, "a", of([]string{"a"}, found(v4(1), 64)))
}

// Addresses of which any byte, or the version, is another are not the same.
func TestVersions(t *testing.T) {
	b := []byte{1, 2, 3, 4}
	check(t, list(says("a", v4(b...), 5), says("a", v6(b...), 6)), "a", of([]string{"a"}, found(v4(b...), 5), found(v6(b...), 6)))
	check(t, list(says("a", v6(b...), 5), says("a", v4(b...), 6), says("a", v6(b...), 4)), "a", of([]string{"a"}, found(v6(b...), 5), found(v4(b...), 6)))
	for i := range 16 {
		for _, first := range []api.Addr{v4(), v6()} {
			other := first
			other.B[i] = 1
			check(t, list(says("a", first, 5), says("a", other, 6), says("a", other, 7)), "a", of([]string{"a"}, found(first, 5), found(other, 6)))
		}
	}
	// An address that is not of its type's version is found as it is.
	for _, kind := range []int{1, 28} {
		for _, x := range []api.Addr{v4(1), v6(1), {B: [16]byte{15: 1}}} {
			check(t, list(turned(says("a", x, 5), kind, 1), says("a", x, 6)), "a", of([]string{"a"}, found(x, 5)))
		}
	}
}

// The least Ttl counts, whichever record of the way has it.
func TestLeastTtl(t *testing.T) {
	ttls := []uint32{0, 1, 2, 5, 86_400, 86_401, math.MaxInt32, math.MaxInt32 + 1, math.MaxUint32 - 1, math.MaxUint32}
	for _, x := range ttls {
		check(t, list(says("a", v4(1), x)), "a", of([]string{"a"}, found(v4(1), x)))
		for _, y := range ttls {
			check(t, list(leads("a", "b", x), says("b", v6(1), y)), "a", of([]string{"a", "b"}, found(v6(1), min(x, y))))
			for _, z := range ttls {
				check(t, list(says("c", v4(1), z), leads("b", "c", y), leads("a", "b", x)), "a", of([]string{"a", "b", "c"}, found(v4(1), min(x, y, z))))
			}
		}
	}
	// Of as many as may be, each one being the least.
	for least := range 16 {
		for _, v := range []uint32{0, 1, math.MaxUint32 - 1} {
			l, names := line(16)
			l = append(l, says("n15", v4(1), 0))
			for i := range l {
				l[i].Ttl = math.MaxUint32
			}
			l[least].Ttl = v
			check(t, l, "n0", of(names, found(v4(1), v)))
		}
	}
	// Each address is held to its own record's, and to the way's, but not to another address's.
	check(t, list(leads("a", "b", 50), says("b", v4(1), 10), says("b", v4(2), 90), says("b", v4(3), 50), says("b", v4(4), 49), says("b", v4(5), 51), says("b", v4(6), 0), says("b", v4(7), 60)), "a",
		of([]string{"a", "b"}, found(v4(1), 10), found(v4(2), 50), found(v4(3), 50), found(v4(4), 49), found(v4(5), 50), found(v4(6), 0), found(v4(7), 50)))
	// Records beside the way shorten nothing.
	check(t, list(leads("x", "b", 1), leads("b", "c", 50), leads("b", "c", 2), says("x", v4(1), 3), says("c", v4(1), 60), turned(leads("b", "c", 4), 2, 1)), "b", of([]string{"b", "c"}, found(v4(1), 50)))
}

// What is in other parts of the message plays no part.
func TestOtherParts(t *testing.T) {
	beside := list(leads("a", "x", 1), leads("b", "x", 1), says("a", v4(9), 1), says("b", v4(1), 1), says("b", v4(9), 1), says("x", v6(9), 1), leads("b", "a", 1))
	asked := []api.Question{{Name: "b", Type: 28, Class: 3}, {Name: "x", Type: 5, Class: 1}}
	for _, l := range [][]api.Record{nil, list(leads("a", "b", 9), says("b", v4(1), 8)), list(says("a", v6(1), 7)), list(leads("a", "a", 9))} {
		for _, m := range []api.Message{
			{Authority: beside},
			{Extra: beside},
			{Questions: asked},
			{Id: 7, Reply: true, Opcode: 2, Code: 3, Flags: 127},
			{Id: -1, Opcode: 99, Code: 5, Flags: -1, Questions: asked, Authority: beside, Extra: beside},
		} {
			m.Answers = l
			if got, want := follow(m, "a"), expected(l, "a"); !same(got, want) {
				t.Errorf("P15.1: Follow of %+v: %v; want %v", m, got, want)
			}
		}
	}
	check(t, list(api.Record{Name: "a", Type: 1, Class: 1, Ttl: 9, Addr: v4(1), Target: "b", Data: []byte{1}}), "a", of([]string{"a"}, found(v4(1), 9)))
}

// Names are compared byte by byte, be they names or not.
func TestNamesByteByByte(t *testing.T) {
	long := strings.Repeat("x", 300)
	names := []string{"", ".", "a", "A", "a.", ".a", "a.a", "a..a", "aa", "aA", "a b", "a\x00", "\x00", "ä", "a\xcc\x88", "\xff", "\xff\xfe", "*", "*.a", "example.org", "EXAMPLE.org", "example.org.", long, long + "x", long[1:] + "y"}
	for i, x := range names {
		for j, y := range names {
			l := list(says(y, v4(1), 9))
			if i == j {
				check(t, l, x, of([]string{x}, found(v4(1), 9)))
				check(t, list(leads(x, y, 9)), x, answer{})
				continue
			}
			check(t, l, x, of([]string{x}))
			check(t, list(leads(x, y, 5), says(y, v4(1), 9)), x, of([]string{x, y}, found(v4(1), 5)))
			check(t, list(leads(y, x, 5), says(x, v4(1), 9)), x, of([]string{x}, found(v4(1), 9)))
			check(t, list(leads(x, y, 5), leads(y, x, 5)), x, answer{})
		}
	}
}

// parts: each record that stands between a few names, in a few ways.
func parts() []api.Record {
	var l []api.Record
	for _, s := range []string{"a", "b"} {
		l = append(l, leads(s, "a", 3), leads(s, "b", 4), leads(s, "c", 5), says(s, v4(1), 4))
	}
	return append(l, says("c", v4(1), 2), says("c", v4(1), 9), says("c", v6(1), 6), turned(leads("a", "b", 1), 5, 3), turned(says("c", v4(1), 1), 1, 0), turned(leads("a", "c", 1), 16, 1))
}

// Each short list of such.
func TestShortLists(t *testing.T) {
	all := parts()
	for _, x := range all {
		checkAny(t, list(x), "a")
		for _, y := range all {
			checkAny(t, list(x, y), "a")
			for _, z := range all {
				checkAny(t, list(x, y, z), "a")
				for _, w := range all {
					checkAny(t, list(x, y, z, w), "a")
				}
			}
		}
	}
}

// random: so many bytes that hang on the seed alone.
func random(seed *uint32, n int) []byte {
	b := make([]byte, n)
	for i := range b {
		*seed = *seed*1_664_525 + 1_013_904_223
		b[i] = byte(*seed >> 24)
	}
	return b
}

func TestOfAnything(t *testing.T) {
	seed, ended, far, many := uint32(1), 0, 0, 0
	for range 20_000 {
		head := random(&seed, 2)
		_, names := line(1 + int(head[0])%20)
		l := make([]api.Record, int(head[1])%(api.MaxRecords+1))
		for i := range l {
			p := random(&seed, 8)
			from, to := int(p[0])%len(names), int(p[1])%len(names)
			if p[2] < 200 && to > 0 {
				// Mostly onwards: else hardly any way would be long.
				from = to - 1
			}
			l[i] = leads(names[from], names[to], uint32(p[3]))
			if p[4] < 80 {
				l[i] = says(names[to], v4(p[5]%5), uint32(p[3]))
				l[i].Addr.V6 = p[5] > 128
			}
			if p[6] < 10 {
				l[i].Class = int(p[6])
			}
			if p[7] < 10 {
				l[i].Type = int(p[7])
			}
		}
		checkAny(t, l, "n0")
		w := expected(l, "n0")
		switch {
		case len(w.names) == 0:
			ended++
		case len(w.names) > 6:
			far++
		}
		if len(w.found) > 2 {
			many++
		}
	}
	if ended < 1_000 || far < 300 || many < 300 {
		t.Fatalf("the tests' own messages: %d lead nowhere, %d far, %d to several", ended, far, many)
	}
}

// More records than a message may have.
func TestManyRecords(t *testing.T) {
	var l []api.Record
	want := []api.Found{}
	for i := range 3_000 {
		a := v4(1, byte(i/256), byte(i%256))
		l = append(l, says("b", a, uint32(i)), turned(leads("a", "c", 1), 5, 2), says("b", a, 0))
		want = append(want, found(a, min(1_000, uint32(i))))
	}
	check(t, append(l, leads("a", "b", 1_000)), "a", of([]string{"a", "b"}, want...))
}

// What went to and fro as bytes leads on just so.
func TestOfParsedMessages(t *testing.T) {
	for n := 1; n <= 20; n++ {
		l, names := line(n)
		l = append(l, says(names[n-1], v4(10, 1, 2, 3), 300), says(names[n-1], v6(32, 1), 60), says(names[n-1], v4(10, 1, 2, 3), 1))
		b, e := dnsmsg.Write(api.Message{Reply: true, Questions: []api.Question{{Name: "n0", Type: 1, Class: 1}}, Answers: l, Extra: list(says("n0", v4(9), 9))})
		if e != nil {
			t.Fatalf("the tests' own message may not be: %v", e)
		}
		m, e := dnsmsg.Parse(b)
		if e != nil {
			t.Fatalf("the tests' own message is none: %v", e)
		}
		if got, want := follow(m, m.Questions[0].Name), expected(l, "n0"); !same(got, want) {
			t.Errorf("P15.1: Follow of %+v: %v; want %v", m, got, want)
		}
	}
}

// What stands in the room behind the end of the answers is not read, and not written on.
func TestRoomBehindTheEnd(t *testing.T) {
	whole := list(leads("a", "b", 9), says("b", v4(1), 8), leads("b", "c", 7), says("c", v4(2), 6), leads("c", "a", 5), says("b", v6(1), 4))
	for n := range len(whole) + 1 {
		l := slices.Clone(whole)
		for range 2 {
			if got, want := follow(api.Message{Answers: l[:n]}, "a"), expected(slices.Clone(whole[:n]), "a"); !same(got, want) {
				t.Errorf("R3: Follow of the first %d of %+v: %v; want %v", n, whole, got, want)
			}
		}
		if !slices.EqualFunc(l, whole, sameRecord) {
			t.Fatalf("R3: what was handed in, or stands behind its end, was written on: %+v", l)
		}
	}
}

func TestWhatIsHandedInStays(t *testing.T) {
	l := list(leads("a", "b", 9), says("b", v4(1), 8), says("b", v4(1), 3), turned(says("b", v6(1), 3), 28, 1), api.Record{Name: "b", Type: 16, Class: 1, Data: []byte{1, 2, 3}})
	m := api.Message{Id: 1, Reply: true, Opcode: 2, Code: 3, Flags: 4, Questions: []api.Question{{Name: "a", Type: 1, Class: 1}}, Answers: l, Authority: slices.Clone(l), Extra: slices.Clone(l)}
	before := copied(m)
	Follow(m, "a")
	if !sameMessage(m, before) {
		t.Errorf("R3: what was handed in was changed: %+v; it was %+v", m, before)
	}
}

// Who writes into an answer, or into the room behind its end, changes neither another one nor what was handed in; nor does an answer hang on what is handed in any more.
func TestAnswersAreNew(t *testing.T) {
	l := list(leads("a", "b", 9), leads("b", "c", 7), says("c", v4(2), 6), says("c", v6(1), 8))
	want := of([]string{"a", "b", "c"}, found(v4(2), 6), found(v6(1), 7))
	m := copied(api.Message{Answers: l})
	held, next := follow(m, "a"), follow(m, "a")
	for f := next.found[:cap(next.found)]; len(f) > 0; f = f[1:] {
		f[0] = found(v4(99), 99)
	}
	for s := next.names[:cap(next.names)]; len(s) > 0; s = s[1:] {
		s[0] = "gone"
	}
	if !same(held, want) || !slices.EqualFunc(m.Answers, l, sameRecord) {
		t.Errorf("R3: who writes into one answer changes another, or what was handed in: %v, %+v", held, m.Answers)
	}
	check(t, l, "a", want)
	for i := range m.Answers {
		m.Answers[i] = says("gone", v4(88), 88)
	}
	if !same(held, want) {
		t.Errorf("R3: who writes into what was handed in changes an answer: %v", held)
	}
}

func TestAnswersHangOnArgumentsAlone(t *testing.T) {
	far, _ := line(17)
	for range 3 {
		check(t, list(leads("a", "b", 9), says("b", v4(1), 8)), "a", of([]string{"a", "b"}, found(v4(1), 8)))
		check(t, list(says("b", v4(1), 9)), "b", of([]string{"b"}, found(v4(1), 9)))
		check(t, far, "n0", answer{})
		check(t, nil, "a", of([]string{"a"}))
		check(t, list(leads("a", "a", 9)), "a", answer{})
		check(t, list(says("a", v4(1), 5)), "a", of([]string{"a"}, found(v4(1), 5)))
	}
}
