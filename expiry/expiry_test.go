package expiry

import (
	"errors"
	"fmt"
	"math"
	"slices"
	"sort"
	"testing"

	"stockade/api"
	"stockade/fault"
)

// last: the greatest number, written out.
const last = 18_446_744_073_709_551_615

// most: how many ids there may be at most, written out.
const most = 1_000

var errOther = errors.New("other")

// entry: an id, and when it ends.
func entry(id int, at uint64) api.Entry { return api.Entry{Id: id, At: at} }

// list: entries, as one.
func list(l ...api.Entry) []api.Entry { return l }

// ordered: l by when they end, then by id.
func ordered(l []api.Entry) []api.Entry {
	l = slices.Clone(l)
	sort.Slice(l, func(i, j int) bool {
		if l[i].At != l[j].At {
			return l[i].At < l[j].At
		}
		return l[i].Id < l[j].Id
	})
	return l
}

// isJust tells whether e is that error (0: none), at no place.
func isJust(e error, want api.Errno) bool {
	if want == 0 {
		return e == nil
	}
	var n api.Errno
	var f *api.Fault
	return errors.Is(e, want) && errors.As(e, &n) && n == want && !errors.As(e, &f)
}

// pair of a queue, and of a plain list of what is to be in it, in no order.
type pair struct {
	t    *testing.T
	q    *Queue
	room int
	l    []api.Entry
}

// pairOf: a new queue for so many, and a plain list of nothing.
func pairOf(t *testing.T, room int) *pair {
	return &pair{t: t, q: New(room), room: room}
}

// place: where in the plain list id is; below 0, if it is not.
func (p *pair) place(id int) int {
	return slices.IndexFunc(p.l, func(x api.Entry) bool { return x.Id == id })
}

// first: what the plain list has to end first; false of none.
func (p *pair) first() (least api.Entry, some bool) {
	for _, x := range p.l {
		if !some || x.At < least.At || x.At == least.At && x.Id < least.Id {
			least, some = x, true
		}
	}
	return least, some
}

// push, move, cancel: what the call answers is what the promise says of the plain list, which is turned likewise.
func (p *pair) push(id int, at uint64) {
	p.t.Helper()
	want := api.Errno(0)
	switch {
	case p.place(id) >= 0:
		want = api.ErrThere
	case len(p.l) == p.room:
		want = api.ErrFull
	default:
		p.l = append(p.l, entry(id, at))
	}
	if e := p.q.Push(id, at); !isJust(e, want) {
		p.t.Fatalf("P17.1: Push(%d, %d): %v; want %d", id, at, e, want)
	}
}

func (p *pair) move(id int, at uint64) {
	p.t.Helper()
	i, want := p.place(id), api.ErrNone
	if i >= 0 {
		p.l[i].At, want = at, 0
	}
	if e := p.q.Move(id, at); !isJust(e, want) {
		p.t.Fatalf("P17.1: Move(%d, %d): %v; want %d", id, at, e, want)
	}
}

func (p *pair) cancel(id int) {
	p.t.Helper()
	i, want := p.place(id), api.ErrNone
	if i >= 0 {
		p.l, want = slices.Delete(p.l, i, i+1), 0
	}
	if e := p.q.Cancel(id); !isJust(e, want) {
		p.t.Fatalf("P17.1: Cancel(%d): %v; want %d", id, e, want)
	}
}

func (p *pair) due(now uint64) {
	p.t.Helper()
	var want, left []api.Entry
	for _, x := range p.l {
		if x.At <= now {
			want = append(want, x)
		} else {
			left = append(left, x)
		}
	}
	p.l, want = left, ordered(want)
	if got := p.q.Due(now); !slices.Equal(got, want) {
		p.t.Fatalf("P17.1: Due(%d): %v; want %v", now, got, want)
	}
}

// check: do Len, Next and At tell what is in the plain list, and At nothing of these others?
func (p *pair) check(others ...int) {
	p.t.Helper()
	if n := p.q.Len(); n != len(p.l) {
		p.t.Fatalf("P17.1: Len: %d; want %d", n, len(p.l))
	}
	first, some := p.first()
	if got, is := p.q.Next(); got != first || is != some {
		p.t.Fatalf("P17.1: Next: %v, %v; want %v, %v", got, is, first, some)
	}
	for _, x := range p.l {
		if at, is := p.q.At(x.Id); at != x.At || !is {
			p.t.Fatalf("P17.1: At(%d): %d, %v; want %d, true", x.Id, at, is, x.At)
		}
	}
	for _, id := range others {
		if at, is := p.q.At(id); p.place(id) < 0 && (at != 0 || is) {
			p.t.Fatalf("P17.1: At(%d), which is not there: %d, %v; want 0, false", id, at, is)
		}
	}
}

// end: takes all there is, which tells in which order it was.
func (p *pair) end() {
	p.t.Helper()
	p.check()
	p.due(last)
	p.check()
}

// of: a pair for so many, into which these were pushed, and checked behind each.
func of(t *testing.T, room int, l ...api.Entry) *pair {
	t.Helper()
	p := pairOf(t, room)
	for _, x := range l {
		p.push(x.Id, x.At)
		p.check()
	}
	return p
}

// checkLeft: is that what is in q, in that order? It takes it all.
func checkLeft(t *testing.T, q *Queue, want ...api.Entry) {
	t.Helper()
	if n := q.Len(); n != len(want) {
		t.Fatalf("P17.1: Len: %d; want %d", n, len(want))
	}
	for _, x := range want {
		if at, is := q.At(x.Id); at != x.At || !is {
			t.Fatalf("P17.1: At(%d): %d, %v; want %d, true", x.Id, at, is, x.At)
		}
	}
	if got := q.Due(last); !slices.Equal(got, want) || q.Len() != 0 {
		t.Fatalf("P17.1: all there is: %v, and Len %d behind; want %v", got, q.Len(), want)
	}
}

// checkError: does the call answer that error?
func checkError(t *testing.T, call string, e error, want api.Errno) {
	t.Helper()
	if !isJust(e, want) {
		t.Errorf("P17.1: %s: %v; want %d", call, e, want)
	}
}

func TestExample(t *testing.T) {
	q := New(2)
	checkError(t, "Push(7, 5)", q.Push(7, 5), 0)
	checkError(t, "Push(3, 5)", q.Push(3, 5), 0)
	if got, is := q.Next(); got != entry(3, 5) || !is {
		t.Errorf("P17.1: Next: %v, %v; want 3 at 5, true", got, is)
	}
}

func TestNew(t *testing.T) {
	if api.MaxTable != most || api.MaxTime != uint64(last) {
		t.Fatal("the tests' own numbers of MaxTable and MaxTime are other ones")
	}
	for _, r := range []struct{ n, room int }{
		{math.MinInt, 0}, {-most, 0}, {-2, 0}, {-1, 0}, {0, 0}, {1, 1}, {2, 2}, {7, 7},
		{most - 1, most - 1}, {most, most}, {most + 1, most}, {2 * most, most}, {1 << 40, most}, {math.MaxInt, most},
	} {
		q := New(r.n)
		if q == nil {
			t.Fatalf("P17.1: New(%d) tells no queue", r.n)
		}
		p := &pair{t: t, q: q, room: r.room}
		p.check(0, 1)
		p.due(last)
		for i := range r.room {
			p.push(i-3, uint64(i%5))
		}
		if q.Len() != r.room {
			t.Fatalf("P17.1: Len of New(%d) with as many as there may be: %d; want %d", r.n, q.Len(), r.room)
		}
		checkError(t, "Push of one more", q.Push(most, 1), api.ErrFull)
		checkError(t, "Push of one more", q.Push(-4, 0), api.ErrFull)
		p.check(most, -4)
		p.end()
	}
}

func TestPush(t *testing.T) {
	p := pairOf(t, 3)
	p.push(5, 9)
	p.check(4, 6)
	// Of what is there: at the same time, and at others.
	for _, at := range []uint64{9, 8, 10, 0, last} {
		checkError(t, "Push of what is there", p.q.Push(5, at), api.ErrThere)
		p.check(4, 6)
	}
	p.push(-5, 3)
	p.push(0, 12)
	p.check(4, 6)
	checkLeft(t, p.q, entry(-5, 3), entry(5, 9), entry(0, 12))
}

func TestPushOfWhatWasThere(t *testing.T) {
	q := New(2)
	q.Push(1, 4)
	q.Push(2, 6)
	checkError(t, "Cancel(2)", q.Cancel(2), 0)
	checkError(t, "Push(2, 3)", q.Push(2, 3), 0)
	if l := q.Due(4); !slices.Equal(l, list(entry(2, 3), entry(1, 4))) {
		t.Fatalf("P17.1: Due(4): %v; want 2 at 3, 1 at 4", l)
	}
	checkError(t, "Push(1, 9)", q.Push(1, 9), 0)
	checkError(t, "Push(2, 1)", q.Push(2, 1), 0)
	checkError(t, "Push(1, 2)", q.Push(1, 2), api.ErrThere)
	checkLeft(t, q, entry(2, 1), entry(1, 9))
}

func TestFull(t *testing.T) {
	for _, room := range []int{1, 2, 5} {
		p := pairOf(t, room)
		for i := range room {
			p.push(i, uint64(10+i))
		}
		// The first error named counts: what is there may not be pushed, full or not.
		for i := range room {
			checkError(t, "Push of what is there, where there may be no more", p.q.Push(i, 1), api.ErrThere)
			checkError(t, "Push of one more", p.q.Push(room+i, 1), api.ErrFull)
			p.check(room, room+i)
		}
		// What is there may be moved all the same.
		p.move(0, 30)
		checkError(t, "Push of one more", p.q.Push(room, 1), api.ErrFull)
		p.check(room)
		// One gone, one more, again and again.
		for i := range 3 * room {
			p.cancel(i)
			p.push(room+i, 20)
			checkError(t, "Push of one more", p.q.Push(-1, 1), api.ErrFull)
			p.check(-1, i)
		}
		p.due(19)
		p.due(20)
		p.check(room)
		for i := range room {
			p.push(i, uint64(i))
		}
		checkError(t, "Push of one more", p.q.Push(room, 1), api.ErrFull)
		p.end()
	}
	for _, n := range []int{0, -1, math.MinInt} {
		q := New(n)
		for range 3 {
			checkError(t, "Push where none may be", q.Push(1, 1), api.ErrFull)
			checkError(t, "Move where none may be", q.Move(1, 1), api.ErrNone)
			checkError(t, "Cancel where none may be", q.Cancel(1), api.ErrNone)
		}
		checkLeft(t, q)
	}
}

func TestIds(t *testing.T) {
	ids := []int{math.MinInt, math.MinInt + 1, math.MinInt32, -most, -2, -1, 0, 1, 2, 255, 256, most, math.MaxInt32, math.MaxInt32 + 1, math.MaxInt - 1, math.MaxInt}
	p := pairOf(t, len(ids))
	var want []api.Entry
	for i := range ids {
		// Neither as they rise nor as they fall.
		id := ids[(i*5+3)%len(ids)]
		p.push(id, 7)
		p.check(ids...)
	}
	for _, id := range ids {
		checkError(t, "Push of what is there", p.q.Push(id, 7), api.ErrThere)
		want = append(want, entry(id, 7))
	}
	if got := p.q.Due(7); !slices.Equal(got, want) {
		t.Errorf("P17.1: Due(7): %v; want %v", got, want)
	}
	for _, id := range ids {
		p := of(t, 2, entry(5, 5))
		p.push(id, last)
		p.move(id, 0)
		p.check(ids...)
		p.cancel(id)
		p.check(ids...)
		checkError(t, "Move of what is not there", p.q.Move(id, 1), api.ErrNone)
		checkError(t, "Cancel of what is not there", p.q.Cancel(id), api.ErrNone)
		checkLeft(t, p.q, entry(5, 5))
	}
}

func TestMove(t *testing.T) {
	for _, r := range []struct {
		id   int
		at   uint64
		want []api.Entry
	}{
		{2, 20, list(entry(1, 10), entry(2, 20), entry(3, 30), entry(4, 40))}, // to where it was
		{2, 5, list(entry(2, 5), entry(1, 10), entry(3, 30), entry(4, 40))},
		{2, 19, list(entry(1, 10), entry(2, 19), entry(3, 30), entry(4, 40))},
		{2, 21, list(entry(1, 10), entry(2, 21), entry(3, 30), entry(4, 40))},
		{2, 35, list(entry(1, 10), entry(3, 30), entry(2, 35), entry(4, 40))},
		{2, 50, list(entry(1, 10), entry(3, 30), entry(4, 40), entry(2, 50))},
		{2, 0, list(entry(2, 0), entry(1, 10), entry(3, 30), entry(4, 40))},
		{2, last, list(entry(1, 10), entry(3, 30), entry(4, 40), entry(2, last))},
		// To where others end: then the least id is ahead.
		{2, 10, list(entry(1, 10), entry(2, 10), entry(3, 30), entry(4, 40))},
		{2, 30, list(entry(1, 10), entry(2, 30), entry(3, 30), entry(4, 40))},
		{2, 40, list(entry(1, 10), entry(3, 30), entry(2, 40), entry(4, 40))},
		{3, 10, list(entry(1, 10), entry(3, 10), entry(2, 20), entry(4, 40))},
		{3, 40, list(entry(1, 10), entry(2, 20), entry(3, 40), entry(4, 40))},
		// The first one, and the last one.
		{1, 11, list(entry(1, 11), entry(2, 20), entry(3, 30), entry(4, 40))},
		{1, 20, list(entry(1, 20), entry(2, 20), entry(3, 30), entry(4, 40))},
		{1, 40, list(entry(2, 20), entry(3, 30), entry(1, 40), entry(4, 40))},
		{1, 41, list(entry(2, 20), entry(3, 30), entry(4, 40), entry(1, 41))},
		{4, 10, list(entry(1, 10), entry(4, 10), entry(2, 20), entry(3, 30))},
		{4, 9, list(entry(4, 9), entry(1, 10), entry(2, 20), entry(3, 30))},
		{4, 39, list(entry(1, 10), entry(2, 20), entry(3, 30), entry(4, 39))},
	} {
		p := of(t, 4, entry(3, 30), entry(1, 10), entry(4, 40), entry(2, 20))
		p.move(r.id, r.at)
		p.check(0, 5)
		checkLeft(t, p.q, r.want...)
	}
}

func TestMoveOfWhatIsNotThere(t *testing.T) {
	p := of(t, 3, entry(1, 10), entry(2, 20))
	for _, id := range []int{0, 3, -1, 10, 20, math.MinInt, math.MaxInt} {
		for _, at := range []uint64{0, 10, 15, last} {
			checkError(t, "Move of what is not there", p.q.Move(id, at), api.ErrNone)
			p.check(id)
		}
	}
	p.cancel(1)
	checkError(t, "Move of what was cancelled", p.q.Move(1, 10), api.ErrNone)
	p.due(20)
	checkError(t, "Move of what was due", p.q.Move(2, 30), api.ErrNone)
	p.check(1, 2)
	checkLeft(t, p.q)
}

// Where it ended ahead of a Move plays no part any more.
func TestMoveAgain(t *testing.T) {
	p := of(t, 3, entry(1, 10), entry(2, 20), entry(3, 30))
	for _, at := range []uint64{25, 5, 30, 20, 20, 0, last, 10} {
		p.move(1, at)
		p.check(0, 4)
	}
	p.move(1, 40)
	p.due(39)
	if at, is := p.q.At(1); at != 40 || !is {
		t.Errorf("P17.1: At of what was moved: %d, %v; want 40, true", at, is)
	}
	p.move(1, 4)
	if l := p.q.Due(3); len(l) > 0 {
		t.Errorf("P17.1: Due(3): %v; want none", l)
	}
	checkLeft(t, p.q, entry(1, 4))
}

func TestCancel(t *testing.T) {
	all := list(entry(1, 10), entry(9, 20), entry(2, 20), entry(5, 20), entry(3, 30))
	for _, gone := range all {
		p := of(t, 5, all...)
		p.cancel(gone.Id)
		for range 3 {
			p.check(gone.Id)
			checkError(t, "Cancel of the same again", p.q.Cancel(gone.Id), api.ErrNone)
		}
		p.push(gone.Id, 25)
		p.check()
		p.end()
	}
	p := of(t, 5, all...)
	for _, id := range []int{0, 4, -1, 10, 20, 30, math.MinInt, math.MaxInt} {
		checkError(t, "Cancel of what is not there", p.q.Cancel(id), api.ErrNone)
		p.check(id)
	}
	checkLeft(t, p.q, entry(1, 10), entry(2, 20), entry(5, 20), entry(9, 20), entry(3, 30))
	checkError(t, "Cancel of what was due", p.q.Cancel(5), api.ErrNone)
}

// In whichever order they go, each leaves the others as they were.
func TestCancelAll(t *testing.T) {
	orders(list(entry(1, 10), entry(2, 20), entry(5, 20), entry(3, 30), entry(4, 5)), func(l []api.Entry) {
		p := of(t, 5, entry(1, 10), entry(5, 20), entry(2, 20), entry(3, 30), entry(4, 5))
		for _, gone := range l {
			p.cancel(gone.Id)
			p.check(gone.Id)
		}
		checkLeft(t, p.q)
	})
}

func TestRefusedPushTurnsNothing(t *testing.T) {
	l := list(entry(1, 10), entry(2, 20), entry(3, 30))
	for _, id := range []int{0, 1, 2, 3, 4, -1, math.MinInt, math.MaxInt} {
		for _, at := range []uint64{0, 5, 10, 15, 20, 25, 30, 35, last} {
			want := api.ErrFull
			if id >= 1 && id <= 3 {
				want = api.ErrThere
			}
			p := of(t, 3, l...)
			for range 4 {
				checkError(t, "Push where there may be no more", p.q.Push(id, at), want)
				p.check(id)
			}
			checkLeft(t, p.q, l...)
			if _, is := p.q.Next(); is {
				t.Fatal("P17.1: a refused Push comes back")
			}
			// Also the room is as it was.
			for _, x := range l {
				checkError(t, "Push behind all", p.q.Push(x.Id, x.At), 0)
			}
			checkError(t, "Push of one more", p.q.Push(0, 1), api.ErrFull)
			checkLeft(t, p.q, l...)
		}
	}
}

func TestNext(t *testing.T) {
	again := func(q *Queue, want api.Entry, some bool) {
		t.Helper()
		n := q.Len()
		for range 5 {
			if got, is := q.Next(); got != want || is != some || q.Len() != n {
				t.Fatalf("P17.1: Next: %v, %v, and Len %d; want %v, %v, %d", got, is, q.Len(), want, some, n)
			}
		}
	}
	q := New(5)
	again(q, api.Entry{}, false)
	q.Push(8, 40)
	again(q, entry(8, 40), true)
	q.Push(1, 50)
	again(q, entry(8, 40), true)
	q.Push(9, 40)
	again(q, entry(8, 40), true)
	q.Push(7, 40)
	again(q, entry(7, 40), true)
	q.Push(-3, 40)
	again(q, entry(-3, 40), true)
	q.Move(-3, 41)
	again(q, entry(7, 40), true)
	q.Cancel(7)
	again(q, entry(8, 40), true)
	q.Move(1, 0)
	again(q, entry(1, 0), true)
	q.Due(0)
	again(q, entry(8, 40), true)
	q.Cancel(8)
	q.Cancel(9)
	again(q, entry(-3, 41), true)
	q.Due(last)
	again(q, api.Entry{}, false)
	// One that is all zero is there all the same.
	q.Push(0, 0)
	again(q, api.Entry{}, true)
}

func TestDue(t *testing.T) {
	all := list(entry(4, 0), entry(9, 10), entry(-2, 10), entry(3, 10), entry(1, 11), entry(2, last-1), entry(-7, last), entry(6, last))
	told := list(entry(4, 0), entry(-2, 10), entry(3, 10), entry(9, 10), entry(1, 11), entry(2, last-1), entry(-7, last), entry(6, last))
	for _, r := range []struct {
		now uint64
		n   int
	}{{0, 1}, {1, 1}, {9, 1}, {10, 4}, {11, 5}, {12, 5}, {1 << 63, 5}, {last - 2, 5}, {last - 1, 6}, {last, 8}} {
		p := of(t, 8, all...)
		if got := p.q.Due(r.now); !slices.Equal(got, told[:r.n]) {
			t.Fatalf("P17.1: Due(%d): %v; want %v", r.now, got, told[:r.n])
		}
		p.l = told[r.n:]
		p.check(4, 9, -2, 3, 1, 2, -7, 6)
		// Each once: neither again, nor ahead of that.
		for _, now := range []uint64{r.now, 0, r.now / 2} {
			if got := p.q.Due(now); len(got) > 0 {
				t.Fatalf("P17.1: Due(%d) behind Due(%d): %v; want none", now, r.now, got)
			}
		}
		for _, gone := range told[:r.n] {
			checkError(t, "Cancel of what was due", p.q.Cancel(gone.Id), api.ErrNone)
			checkError(t, "Move of what was due", p.q.Move(gone.Id, last), api.ErrNone)
		}
		checkLeft(t, p.q, told[r.n:]...)
	}
}

func TestDueOfNone(t *testing.T) {
	q := New(3)
	for range 2 {
		for _, now := range []uint64{0, 1, 10, last} {
			if l := q.Due(now); len(l) > 0 {
				t.Fatalf("P17.1: Due(%d) of none: %v", now, l)
			}
		}
		q.Push(1, 5)
		q.Cancel(1)
	}
	// Ahead of all.
	p := of(t, 3, entry(1, 5), entry(2, 4), entry(3, last))
	for _, now := range []uint64{0, 1, 3} {
		if l := p.q.Due(now); len(l) > 0 {
			t.Fatalf("P17.1: Due(%d) ahead of all: %v", now, l)
		}
		p.check(0)
	}
	checkLeft(t, p.q, entry(2, 4), entry(1, 5), entry(3, last))
}

// What was asked ahead plays no part: something may end ahead of what was due already.
func TestDueGoesBack(t *testing.T) {
	p := of(t, 3, entry(1, 50), entry(2, 60))
	p.due(55)
	p.push(1, 10)
	p.push(3, 55)
	p.check()
	p.due(9)
	p.due(10)
	p.check(1)
	p.move(2, 0)
	p.due(0)
	p.check(1, 2)
	checkLeft(t, p.q, entry(3, 55))
}

func TestDueTickByTick(t *testing.T) {
	p := pairOf(t, 60)
	for i := range 60 {
		p.push(i*7%60, uint64(i*i%31))
	}
	for now := range uint64(33) {
		p.due(now)
		p.check(0, 30, 59)
	}
	checkLeft(t, p.q)
}

func TestAt(t *testing.T) {
	q := New(3)
	want := func(id int, at uint64, is bool) {
		t.Helper()
		for range 3 {
			if a, there := q.At(id); a != at || there != is {
				t.Fatalf("P17.1: At(%d): %d, %v; want %d, %v", id, a, there, at, is)
			}
		}
	}
	want(1, 0, false)
	q.Push(1, 10)
	q.Push(2, 0)
	q.Push(3, last)
	want(1, 10, true)
	want(2, 0, true)
	want(3, last, true)
	want(10, 0, false)
	want(0, 0, false)
	q.Push(1, 12)
	q.Push(4, 12)
	want(1, 10, true)
	want(4, 0, false)
	q.Move(1, 20)
	q.Move(4, 20)
	want(1, 20, true)
	want(4, 0, false)
	q.Cancel(1)
	want(1, 0, false)
	want(2, 0, true)
	q.Due(0)
	want(2, 0, false)
	want(3, last, true)
	q.Push(2, 9)
	want(2, 9, true)
	q.Due(last)
	want(2, 0, false)
	want(3, 0, false)
}

func TestLen(t *testing.T) {
	q := New(2)
	for i, r := range []struct {
		do   func()
		want int
	}{
		{func() {}, 0},
		{func() { q.Push(1, 10) }, 1},
		{func() { q.Push(1, 11) }, 1},
		{func() { q.Push(2, 10) }, 2},
		{func() { q.Push(3, 10) }, 2},
		{func() { q.Move(1, 5) }, 2},
		{func() { q.Move(3, 5) }, 2},
		{func() { q.Next() }, 2},
		{func() { q.At(1) }, 2},
		{func() { q.Due(4) }, 2},
		{func() { q.Due(5) }, 1},
		{func() { q.Cancel(1) }, 1},
		{func() { q.Push(3, 10) }, 2},
		{func() { q.Cancel(2) }, 1},
		{func() { q.Cancel(2) }, 1},
		{func() { q.Push(2, 10) }, 2},
		{func() { q.Due(10) }, 0},
		{func() { q.Due(last) }, 0},
		{func() { q.Cancel(2) }, 0},
		{func() { q.Push(1, 1) }, 1},
	} {
		r.do()
		for range 2 {
			if n := q.Len(); n != r.want {
				t.Fatalf("P17.1: Len behind the step %d: %d; want %d", i, n, r.want)
			}
		}
	}
}

// orders: does something with each order of l.
func orders(l []api.Entry, do func([]api.Entry)) {
	var put func(done, left []api.Entry)
	put = func(done, left []api.Entry) {
		if len(left) == 0 {
			do(done)
		}
		for i, x := range left {
			put(append(slices.Clone(done), x), slices.Concat(left[:i], left[i+1:]))
		}
	}
	put(nil, l)
}

// The order in which they were pushed, or moved to where they end, plays no part.
func TestInWhateverOrder(t *testing.T) {
	want := list(entry(0, 0), entry(-1, 5), entry(4, 5), entry(9, 5), entry(2, last-1), entry(-8, last))
	orders(want, func(l []api.Entry) {
		p := of(t, len(l), l...)
		moved := New(len(l))
		for _, x := range l {
			moved.Push(x.Id, 7)
		}
		for _, x := range l {
			checkError(t, "Move", moved.Move(x.Id, x.At), 0)
		}
		checkLeft(t, p.q, want...)
		checkLeft(t, moved, want...)
	})
}

// Every way of a few calls, with a few ids and times.
func TestFewCalls(t *testing.T) {
	var steps []func(p *pair)
	for _, id := range []int{-1, 2} {
		for _, at := range []uint64{0, 3, last} {
			steps = append(steps, func(p *pair) { p.push(id, at) }, func(p *pair) { p.move(id, at) })
		}
		steps = append(steps, func(p *pair) { p.cancel(id) })
	}
	for _, now := range []uint64{0, 3, last} {
		steps = append(steps, func(p *pair) { p.due(now) })
	}
	for room := range 3 {
		for way := range len(steps) * len(steps) * len(steps) * len(steps) {
			p := pairOf(t, room)
			for n, i := way, 0; i < 4; n, i = n/len(steps), i+1 {
				steps[n%len(steps)](p)
				p.check(-1, 2, 0)
			}
			p.end()
		}
	}
}

// random: a number below n that hangs on the seed alone.
func random(seed *uint64, n uint64) uint64 {
	*seed = *seed*6_364_136_223_846_793_005 + 1_442_695_040_888_963_407
	return (*seed >> 20) % n
}

// step: one call, whichever, with an id and a time of so many.
func (p *pair) step(seed *uint64, ids, times uint64) {
	p.t.Helper()
	id, at := int(random(seed, ids))-int(ids/2), random(seed, times)
	switch random(seed, 8) {
	case 0, 1, 2, 3:
		p.push(id, at)
	case 4, 5:
		p.move(id, at)
	case 6:
		p.cancel(id)
	default:
		p.due(at / 8)
	}
	p.check(id-1, id, id+1)
}

func TestAgainstAPlainList(t *testing.T) {
	seed := uint64(1)
	for _, r := range []struct {
		room       int
		ids, times uint64
		n          int
	}{{1, 3, 4, 2_000}, {3, 6, 5, 5_000}, {10, 14, 100, 5_000}, {40, 60, 12, 10_000}, {40, 60, 1 << 40, 10_000}, {200, 300, 1_000, 10_000}} {
		p := pairOf(t, r.room)
		full := 0
		for range r.n {
			p.step(&seed, r.ids, r.times)
			if len(p.l) == r.room {
				full++
			}
		}
		if r.room <= 10 && full < r.n/20 {
			t.Errorf("the tests' own calls: %d of %d with as many as there may be", full, r.n)
		}
		p.end()
	}
}

// As many ids as there may be, pushed, moved, cancelled and due, neither as they rise nor as they fall.
func TestMany(t *testing.T) {
	p := pairOf(t, most)
	for i := range most {
		p.push(i*377%most-100, uint64(i*613%97))
	}
	p.check(most, -101)
	checkError(t, "Push of one more", p.q.Push(most, 0), api.ErrFull)
	for i := range most / 2 {
		p.move(i*2*189%most-100, uint64(i*331%997))
	}
	p.check(most, -101)
	for i := range most / 4 {
		p.cancel(i*4 - 100)
	}
	p.check(most, -101)
	for _, now := range []uint64{0, 1, 50, 96, 97, 500} {
		p.due(now)
		p.check(most, -101)
	}
	for i := range most {
		p.push(i-100, uint64(i))
	}
	p.end()
}

// What Due hands out, with the room behind its end, is the caller's: who writes there changes nothing.
func TestDueIsNew(t *testing.T) {
	spoil := func(l []api.Entry) {
		_ = append(l, entry(77, 0), entry(78, 0))
		l = l[:cap(l)]
		for i := range l {
			l[i] = entry(66, 1)
		}
	}
	all := list(entry(1, 10), entry(2, 10), entry(3, 20), entry(4, 30), entry(5, 40), entry(6, 50))
	for _, now := range []uint64{0, 9, 10, 20, 30, 40, 50} {
		p := of(t, 6, all...)
		early := p.q.Due(now)
		n := len(early)
		spoil(early)
		p.l = all[n:]
		p.check(1, 2, 66, 77, 78)
		// And what is pushed and due from now on does not turn what was handed out.
		for _, x := range all[:n] {
			p.push(x.Id, x.At)
		}
		for _, x := range early {
			if x != (api.Entry{Id: 66, At: 1}) {
				t.Fatalf("R3: what Due handed out is turned by a Push: %v", early)
			}
		}
		late := p.q.Due(now)
		if !slices.Equal(late, all[:n]) {
			t.Fatalf("R3: Due(%d) hangs on what was written into what it handed out ahead: %v", now, late)
		}
		spoil(late)
		checkLeft(t, p.q, all[n:]...)
	}
}

func TestTwoQueues(t *testing.T) {
	stays, turned := of(t, 3, entry(1, 10), entry(2, 20)), of(t, 3, entry(1, 10), entry(2, 20))
	for _, do := range []func(){
		func() { turned.push(3, 5) },
		func() { turned.push(4, 5) },
		func() { turned.move(1, 30) },
		func() { turned.cancel(2) },
		func() { turned.due(5) },
		func() { turned.push(2, 1) },
		func() { turned.due(last) },
	} {
		do()
		turned.check(1, 2, 3, 4)
		stays.check(1, 2, 3, 4)
	}
	checkLeft(t, stays.q, entry(1, 10), entry(2, 20))
	checkLeft(t, turned.q)
	checkLeft(t, New(3))
}

func TestNilQueue(t *testing.T) {
	var q *Queue
	for range 2 {
		for _, id := range []int{0, 1, -1, math.MinInt, math.MaxInt} {
			for _, at := range []uint64{0, 1, last} {
				checkError(t, "Push of a nil queue", q.Push(id, at), api.ErrNil)
				checkError(t, "Move of a nil queue", q.Move(id, at), api.ErrNil)
				if l := q.Due(at); len(l) > 0 {
					t.Errorf("P17.1: Due(%d) of a nil queue: %v", at, l)
				}
			}
			checkError(t, "Cancel of a nil queue", q.Cancel(id), api.ErrNil)
			if at, is := q.At(id); at != 0 || is {
				t.Errorf("P17.1: At(%d) of a nil queue: %d, %v", id, at, is)
			}
		}
		if got, is := q.Next(); got != (api.Entry{}) || is {
			t.Errorf("P17.1: Next of a nil queue: %v, %v", got, is)
		}
		if n := q.Len(); n != 0 {
			t.Errorf("P17.1: Len of a nil queue: %d", n)
		}
	}
}

// The zero value of the type is as good as a new one for none.
func TestZeroValue(t *testing.T) {
	var q Queue
	for range 2 {
		for _, id := range []int{0, 1, -1, math.MinInt, math.MaxInt} {
			for _, at := range []uint64{0, 1, last} {
				checkError(t, "Push of a zero queue", q.Push(id, at), api.ErrFull)
				checkError(t, "Move of a zero queue", q.Move(id, at), api.ErrNone)
				if l := q.Due(at); len(l) > 0 {
					t.Errorf("P17.1: Due(%d) of a zero queue: %v", at, l)
				}
			}
			checkError(t, "Cancel of a zero queue", q.Cancel(id), api.ErrNone)
			if at, is := q.At(id); at != 0 || is {
				t.Errorf("P17.1: At(%d) of a zero queue: %d, %v", id, at, is)
			}
		}
		if got, is := q.Next(); got != (api.Entry{}) || is || q.Len() != 0 {
			t.Errorf("P17.1: Next of a zero queue: %v, %v, and Len %d", got, is, q.Len())
		}
	}
}

func TestErrors(t *testing.T) {
	var none *Queue
	full := New(1)
	full.Push(math.MinInt, 5)
	for _, r := range []struct {
		call string
		e    error
		want api.Errno
	}{
		{"Push of a nil queue", none.Push(1, 1), api.ErrNil},
		{"Move of a nil queue", none.Move(1, 1), api.ErrNil},
		{"Cancel of a nil queue", none.Cancel(1), api.ErrNil},
		{"Push of what is there", full.Push(math.MinInt, 1), api.ErrThere},
		{"Push of one more", full.Push(1, 1), api.ErrFull},
		{"Move of what is not there", full.Move(1, 1), api.ErrNone},
		{"Cancel of what is not there", full.Cancel(1), api.ErrNone},
		{"Push of a zero queue", new(Queue).Push(1, 1), api.ErrFull},
		{"Move of a zero queue", new(Queue).Move(1, 1), api.ErrNone},
		{"Cancel of a zero queue", new(Queue).Cancel(1), api.ErrNone},
	} {
		for _, e := range []error{r.e, fmt.Errorf("more: %w", r.e), errors.Join(errOther, r.e), fmt.Errorf("more: %w", fmt.Errorf("and more: %w", r.e))} {
			checkError(t, r.call, e, r.want)
			if !errors.Is(e, r.e) || fault.Code(e) != r.want || e.Error() == "" {
				t.Errorf("P17.1: %s: %v isn't found, or says nothing", r.call, e)
			}
			for n := range api.Errno(30) {
				if errors.Is(e, n) != (n == r.want) {
					t.Errorf("P17.1: %s: %v is %d: %v", r.call, e, n, n != r.want)
				}
			}
		}
		// Wrapped in a fault, it has that place, and no other one.
		if at, is := fault.Place(fault.Wrap(4, r.e)); at != 4 || !is {
			t.Errorf("P17.1: %s: wrapped in a fault at 4: %d, %v", r.call, at, is)
		}
	}
	checkLeft(t, full, entry(math.MinInt, 5))
}

// An error stays what it is, whatever is done with its queue.
func TestErrorsStay(t *testing.T) {
	q := New(1)
	gone := q.Cancel(7)
	text := gone.Error()
	q.Push(7, 1)
	there := q.Push(7, 2)
	q.Cancel(7)
	checkError(t, "Cancel of what is not there", gone, api.ErrNone)
	checkError(t, "Push of what is there", there, api.ErrThere)
	if gone.Error() != text {
		t.Errorf("R3: the error of a Cancel tells %q, behind other calls %q", text, gone.Error())
	}
}
