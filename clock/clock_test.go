package clock

import (
	"math/big"
	"slices"
	"testing"

	"stockade/api"
)

// last: the greatest number, written out.
const last = 18_446_744_073_709_551_615

// expected: what the promise says of n behind now, by numbers that have no end.
func expected(now, n uint64) uint64 {
	v := new(big.Int).SetUint64(now)
	v.Add(v, new(big.Int).SetUint64(n))
	if most := new(big.Int).SetUint64(last); v.Cmp(most) > 0 {
		v = most
	}
	return v.Uint64()
}

// at: a clock that a single tick has brought there.
func at(t *testing.T, now uint64) *Clock {
	t.Helper()
	c := New()
	if v := c.Tick(now); v != now || c.Now() != now {
		t.Fatalf("P16.1: Tick(%d) of a new clock: %d, and Now %d", now, v, c.Now())
	}
	return c
}

// checkAfter: is After(n) what is wanted, again and again, and does Now stay?
func checkAfter(t *testing.T, c *Clock, n, want uint64) {
	t.Helper()
	now := c.Now()
	for range 3 {
		if v := c.After(n); v != want || c.Now() != now {
			t.Fatalf("P16.1: After(%d) at %d: %d, and Now %d; want %d, and Now stays", n, now, v, c.Now(), want)
		}
	}
}

// checkTick: does Tick(n) go, and answer, where it is wanted, and does Now tell so, again and again?
func checkTick(t *testing.T, c *Clock, n, want uint64) {
	t.Helper()
	now := c.Now()
	if v := c.Tick(n); v != want {
		t.Fatalf("P16.1: Tick(%d) at %d: %d; want %d", n, now, v, want)
	}
	for range 3 {
		if v := c.Now(); v != want {
			t.Fatalf("P16.1: Now behind Tick(%d) at %d: %d; want %d", n, now, v, want)
		}
	}
}

// check: both, of which After goes first, as it leaves the clock where it is.
func check(t *testing.T, c *Clock, n, want uint64) {
	t.Helper()
	checkAfter(t, c, n, want)
	checkTick(t, c, n, want)
}

// edges: numbers about those at which something may turn, rising.
func edges() []uint64 {
	l := []uint64{0, 1, 2, 3, 5, 10, 30, 60, 180, 3_600, 86_400}
	for shift := 7; shift < 64; shift++ {
		p := uint64(1) << shift
		l = append(l, p-1, p, p+1)
	}
	for back := range uint64(6) {
		l = append(l, last-back, last/2-back, last/2+back)
	}
	slices.Sort(l)
	return slices.Compact(l)
}

func TestExample(t *testing.T) {
	c := New()
	if v := c.Tick(5); v != 5 || c.Now() != 5 {
		t.Errorf("P16.1: Tick(5): %d, and Now %d; want 5", v, c.Now())
	}
}

func TestNewIsAtZero(t *testing.T) {
	for range 3 {
		c := New()
		if c == nil {
			t.Fatal("P16.1: New tells no clock")
		}
		for range 5 {
			if v := c.Now(); v != 0 {
				t.Fatalf("P16.1: Now of a new clock: %d; want 0", v)
			}
		}
		check(t, c, 0, 0)
	}
}

func TestTick(t *testing.T) {
	for _, n := range edges() {
		check(t, New(), n, n)
	}
	// Each goes on from where the one ahead of it came to.
	c := New()
	for _, r := range []struct{ n, want uint64 }{{0, 0}, {1, 1}, {1, 2}, {0, 2}, {5, 7}, {0, 7}, {0, 7}, {1_000, 1_007}, {1 << 32, 1<<32 + 1_007}, {1 << 63, 1<<63 + 1<<32 + 1_007}, {1, 1<<63 + 1<<32 + 1_008}} {
		check(t, c, r.n, r.want)
	}
}

// A tick is as good as its parts.
func TestTicksInParts(t *testing.T) {
	for _, n := range []uint64{1, 2, 3, 10, 100, 3_600} {
		whole, single := New(), New()
		whole.Tick(n)
		for i := range n {
			checkTick(t, single, 1, i+1)
		}
		for first := range n + 1 {
			c := at(t, first)
			checkTick(t, c, n-first, n)
			if c.Now() != whole.Now() || single.Now() != whole.Now() {
				t.Fatalf("P16.1: %d ticks in parts: %d and %d; want %d", n, c.Now(), single.Now(), whole.Now())
			}
		}
	}
	for _, first := range edges() {
		checkTick(t, at(t, first), last-first, last)
	}
}

// orders: does something with each order of l.
func orders(l []uint64, do func([]uint64)) {
	var put func(done, left []uint64)
	put = func(done, left []uint64) {
		if len(left) == 0 {
			do(done)
		}
		for i, n := range left {
			put(append(slices.Clone(done), n), slices.Concat(left[:i], left[i+1:]))
		}
	}
	put(nil, l)
}

func TestTicksInWhateverOrder(t *testing.T) {
	for _, r := range []struct {
		parts []uint64
		want  uint64
	}{
		{[]uint64{0, 1, 2, 30, 86_400}, 86_433},
		{[]uint64{1 << 62, 1 << 62, 1 << 62, 0, 7}, 3<<62 + 7},
		{[]uint64{1 << 63, 1<<63 - 2, 0, 1}, last},
		{[]uint64{1 << 63, 1<<63 - 2, 0}, last - 1},
		{[]uint64{1 << 63, 1<<63 - 2, 1, 1}, last},
		{[]uint64{1 << 63, 1 << 63, 5}, last},
		{[]uint64{last, 1, 0, 3}, last},
		{[]uint64{last, last, last, last}, last},
		{[]uint64{last - 5, 2, 2, 2, 2}, last},
	} {
		orders(r.parts, func(l []uint64) {
			c, now := New(), uint64(0)
			for _, n := range l {
				now = expected(now, n)
				check(t, c, n, now)
			}
			if c.Now() != r.want {
				t.Errorf("P16.1: Now behind the ticks %d: %d; want %d", l, c.Now(), r.want)
			}
		})
	}
}

func TestTicksToTheEnd(t *testing.T) {
	if api.MaxTime != uint64(last) {
		t.Fatal("the tests' own number of MaxTime is another one")
	}
	for _, now := range edges() {
		left := uint64(last) - now
		check(t, at(t, now), left, last)
		if left > 0 {
			check(t, at(t, now), left-1, last-1)
		}
		if left < last {
			check(t, at(t, now), left+1, last)
		}
		check(t, at(t, now), last, last)
	}
	c := at(t, last-2)
	for _, r := range []struct{ n, want uint64 }{{1, last - 1}, {0, last - 1}, {1, last}, {0, last}} {
		check(t, c, r.n, r.want)
	}
}

func TestAtTheEnd(t *testing.T) {
	for _, n := range edges() {
		check(t, at(t, last), n, last)
	}
	// The end stays the end, however often it is come to.
	c := at(t, last)
	for range 3 {
		for _, n := range []uint64{0, 1, last, 2, last - 1, 1 << 63, 1<<63 + 1} {
			check(t, c, n, last)
		}
	}
	// Also where more than is left brought it there.
	for _, now := range []uint64{1, 2, 9, 1 << 63, last - 1} {
		c := at(t, now)
		check(t, c, last, last)
		check(t, c, 1, last)
		check(t, c, 0, last)
	}
}

func TestAfter(t *testing.T) {
	fresh := New()
	for _, n := range edges() {
		checkAfter(t, fresh, n, n)
	}
	// Between ticks: what was asked ahead of a tick plays no part behind it.
	c := New()
	for _, r := range []struct{ ticks, now uint64 }{{5, 5}, {0, 5}, {1 << 32, 1<<32 + 5}, {1 << 63, 1<<63 + 1<<32 + 5}, {last, last}, {1, last}} {
		checkTick(t, c, r.ticks, r.now)
		for _, n := range edges() {
			checkAfter(t, c, n, expected(r.now, n))
		}
	}
	c = at(t, 9)
	for _, r := range []struct{ n, want uint64 }{{0, 9}, {1, 10}, {5, 14}, {last - 10, last - 1}, {last - 9, last}, {last - 8, last}, {last, last}} {
		checkAfter(t, c, r.n, r.want)
	}
	if c.Now() != 9 {
		t.Errorf("P16.1: Now behind After alone: %d; want 9", c.Now())
	}
}

func TestOfAllEdges(t *testing.T) {
	for _, now := range edges() {
		for _, n := range edges() {
			check(t, at(t, now), n, expected(now, n))
		}
	}
}

// random: a number that hangs on the seed alone, of any length in bits.
func random(seed *uint64) uint64 {
	*seed = *seed*6_364_136_223_846_793_005 + 1_442_695_040_888_963_407
	length := *seed >> 58
	*seed = *seed*6_364_136_223_846_793_005 + 1_442_695_040_888_963_407
	return *seed >> length
}

func TestNowNeverFalls(t *testing.T) {
	seed, ended, going := uint64(1), 0, 0
	for range 1_000 {
		c, now := New(), uint64(0)
		for range 100 {
			n := random(&seed)
			checkAfter(t, c, n, expected(now, n))
			if n%3 == 0 {
				// It is only asked about.
				continue
			}
			checkTick(t, c, n, expected(now, n))
			if c.Now() < now {
				t.Fatalf("P16.1: Now falls from %d to %d by Tick(%d)", now, c.Now(), n)
			}
			now = c.Now()
		}
		if now == last {
			ended++
		} else {
			going++
		}
	}
	if ended < 200 || going < 200 {
		t.Fatalf("the tests' own ticks: %d clocks came to the end, %d did not", ended, going)
	}
}

func TestTwoClocks(t *testing.T) {
	ticks, stays := New(), New()
	now := uint64(0)
	for _, n := range []uint64{1, 5, 1 << 63, last, 1} {
		now = expected(now, n)
		check(t, ticks, n, now)
		checkAfter(t, stays, n, n)
		if stays.Now() != 0 {
			t.Fatalf("R2: one clock's tick turns another: %d; want 0", stays.Now())
		}
	}
	check(t, stays, 7, 7)
	if v := ticks.Now(); v != last {
		t.Errorf("R2: one clock's tick turns another: %d; want %d", v, uint64(last))
	}
	if v := New().Now(); v != 0 {
		t.Errorf("P16.1: Now of a new clock, behind the ticks of others: %d; want 0", v)
	}
}

func TestNilClock(t *testing.T) {
	var c *Clock
	for range 2 {
		for _, n := range edges() {
			if v := c.Now(); v != 0 {
				t.Errorf("P16.1: Now of a nil clock: %d; want 0", v)
			}
			if v := c.Tick(n); v != 0 {
				t.Errorf("P16.1: Tick(%d) of a nil clock: %d; want 0", n, v)
			}
			if v := c.After(n); v != 0 {
				t.Errorf("P16.1: After(%d) of a nil clock: %d; want 0", n, v)
			}
		}
	}
	if v := New().Now(); v != 0 {
		t.Errorf("P16.1: Now of a new clock, behind the ticks of a nil one: %d; want 0", v)
	}
}

// The zero value of the type is as good as a new one.
func TestZeroValue(t *testing.T) {
	var c Clock
	if v := c.Now(); v != 0 {
		t.Errorf("P16.1: Now of a clock that New did not make: %d; want 0", v)
	}
	if v := new(Clock).Tick(5); v != 5 {
		t.Errorf("P16.1: Tick(5) of a clock that New did not make: %d; want 5", v)
	}
	if v := (&Clock{}).After(last); v != last {
		t.Errorf("P16.1: After(%d) of a clock that New did not make: %d", uint64(last), v)
	}
	for _, n := range edges() {
		checkAfter(t, &c, n, n)
		check(t, &Clock{}, n, n)
	}
	for _, r := range []struct{ n, want uint64 }{{0, 0}, {1, 1}, {5, 6}, {last - 7, last - 1}, {2, last}, {last, last}} {
		check(t, &c, r.n, r.want)
	}
}
