package fault

import (
	"errors"
	"fmt"
	"testing"

	"stockade/api"
)

var errOther = errors.New("other")

// angry is an error whose methods panic.
type angry struct{}

func (angry) Error() string { return "angry" }
func (angry) As(any) bool   { panic("As") }
func (angry) Unwrap() error { panic("Unwrap") }

// half writes an answer, and panics ahead of saying so.
type half struct{}

func (half) Error() string { return "half" }
func (half) As(target any) bool {
	if c, ok := target.(*api.Errno); ok {
		*c = api.ErrSum
		panic("half")
	}
	return false
}

// liar writes an answer, and says that it wrote none.
type liar struct{}

func (liar) Error() string { return "liar" }
func (liar) As(target any) bool {
	switch x := target.(type) {
	case *api.Errno:
		*x = api.ErrSum
	case **api.Fault:
		*x = &api.Fault{At: 9}
	}
	return false
}

// several is an error that can't be held against another one.
type several struct{ in []error }

func (several) Error() string   { return "several" }
func (s several) Unwrap() error { return s.in[0] }

// outer is an error around another one; unlike fmt's, it asks for no text of it.
type outer struct{ in error }

func (outer) Error() string   { return "outer" }
func (o outer) Unwrap() error { return o.in }

// ring: so many faults, the last one around the first.
func ring(faults int) error {
	first := &api.Fault{At: 1}
	last := first
	for i := 1; i < faults; i++ {
		next := &api.Fault{At: 1 + i}
		last.Err = next
		last = next
	}
	last.Err = first
	return first
}

func TestWrap(t *testing.T) {
	for _, at := range []int{-3, 0, 4, 1 << 40} {
		for _, e := range []error{api.ErrShort, errOther, &api.Fault{At: 2}, (*api.Fault)(nil), api.Errno(0)} {
			f, ok := Wrap(at, e).(*api.Fault)
			if !ok || f == nil || f.At != at || f.Err != e {
				t.Errorf("P1.1: Wrap(%d, %v): %v", at, e, f)
			}
			if !errors.Is(f, e) {
				t.Errorf("P1.1: Wrap(%d, %v): errors.Is does not find what is in it", at, e)
			}
		}
		if e := Wrap(at, nil); e != nil {
			t.Errorf("P1.1: Wrap(%d, nil): %v", at, e)
		}
	}
}

func TestWrapIsNew(t *testing.T) {
	in := &api.Fault{At: 1, Err: api.ErrShort}
	a, b := Wrap(7, in).(*api.Fault), Wrap(7, in).(*api.Fault)
	a.At, a.Err = 8, nil
	if b.At != 7 || b.Err != error(in) || in.At != 1 || in.Err != error(api.ErrShort) {
		t.Errorf("R3: what Wrap handed out is shared: %v, %v", b, in)
	}
}

// row of an error, and what is found in it.
type row struct {
	what string
	e    error
	code api.Errno
	at   int
	is   bool
}

func rows() []row {
	return []row{
		{"nil", nil, 0, 0, false},
		{"a number", api.ErrName, api.ErrName, 0, false},
		{"the number 0", api.Errno(0), 0, 0, false},
		{"a number that has no name", api.Errno(-7), -7, 0, false},
		{"another error", errOther, 0, 0, false},
		{"a number, wrapped by another", fmt.Errorf("x: %w", api.ErrDeep), api.ErrDeep, 0, false},
		{"a fault", Wrap(4, api.ErrShort), api.ErrShort, 4, true},
		{"a fault at 0", Wrap(0, api.ErrShort), api.ErrShort, 0, true},
		{"a fault below 0", Wrap(-3, errOther), 0, -3, true},
		{"a fault with nothing in it", &api.Fault{At: 5}, 0, 5, true},
		{"faults in faults", Wrap(7, Wrap(9, Wrap(4, api.ErrShort))), api.ErrShort, 7, true},
		{"a fault, wrapped by another", fmt.Errorf("x: %w", Wrap(6, api.ErrSum)), api.ErrSum, 6, true},
		{"a fault, deep in others", fmt.Errorf("x: %w", fmt.Errorf("y: %w", Wrap(6, fmt.Errorf("z: %w", api.ErrSum)))), api.ErrSum, 6, true},
		{"joined errors", errors.Join(errOther, Wrap(4, api.ErrShort), Wrap(5, api.ErrBig)), api.ErrShort, 4, true},
		{"number and place apart", errors.Join(api.ErrBig, Wrap(4, errOther)), api.ErrBig, 4, true},
		{"joined errors, in a fault", Wrap(2, errors.Join(errOther, Wrap(4, api.ErrShort))), api.ErrShort, 2, true},
		{"joined errors without any", errors.Join(errOther, errOther), 0, 0, false},
		{"errors that can't be compared", several{[]error{several{[]error{Wrap(3, api.ErrFull)}}}}, api.ErrFull, 3, true},
		{"no fault", (*api.Fault)(nil), 0, 0, false},
		{"a fault around no fault", Wrap(8, (*api.Fault)(nil)), 0, 8, true},
		{"one that panics", angry{}, 0, 0, false},
		{"one that panics, in a fault", Wrap(3, angry{}), 0, 3, true},
		{"one that panics half way", half{}, 0, 0, false},
		{"one that says what it did not find", liar{}, 0, 0, false},
	}
}

func TestCodeAndPlace(t *testing.T) {
	for _, r := range rows() {
		if c := Code(r.e); c != r.code {
			t.Errorf("P1.1: Code of %s: %d; want %d", r.what, c, r.code)
		}
		if at, is := Place(r.e); at != r.at || is != r.is {
			t.Errorf("P1.1: Place of %s: %d, %v; want %d, %v", r.what, at, is, r.at, r.is)
		}
	}
}

func TestDeeper(t *testing.T) {
	for _, r := range rows() {
		for _, by := range []int{-20, -4, 0, 10} {
			d := Deeper(by, r.e)
			if r.e == nil {
				if d != nil {
					t.Errorf("P1.1: Deeper(%d, nil): %v", by, d)
				}
				continue
			}
			f, ok := d.(*api.Fault)
			if !ok || f == nil || f.At != by+r.at || f.Err != error(r.code) {
				t.Errorf("P1.1: Deeper(%d, ..) of %s: %v; want one at %d with %d in it", by, r.what, d, by+r.at, r.code)
			}
		}
	}
}

func TestDeeperAgain(t *testing.T) {
	d := Deeper(1, Deeper(2, Deeper(3, api.ErrSum)))
	if at, is := Place(d); at != 6 || !is || Code(d) != api.ErrSum {
		t.Errorf("P1.1: Deeper of Deeper: %d, %v, %d; want 6, true, %d", at, is, Code(d), api.ErrSum)
	}
}

func TestDeeperTurnsNothing(t *testing.T) {
	in := &api.Fault{At: 4, Err: api.ErrShort}
	d := Deeper(10, in).(*api.Fault)
	d.At, d.Err = 0, nil
	if in.At != 4 || in.Err != error(api.ErrShort) {
		t.Errorf("R3: Deeper turned what it was given: %v", in)
	}
}

func TestExample(t *testing.T) {
	if at, is := Place(Deeper(10, Wrap(4, api.ErrShort))); at != 14 || !is {
		t.Errorf("P1.1: the example: %d, %v; want 14, true", at, is)
	}
}

func TestHoweverDeep(t *testing.T) {
	var e error = api.ErrFragment
	for i := range 1_000_000 {
		e = Wrap(i, e)
	}
	if at, is := Place(e); at != 999_999 || !is || Code(e) != api.ErrFragment {
		t.Errorf("P1.1: of a million faults: %d, %v, %d", at, is, Code(e))
	}
	d := Deeper(1, e)
	if at, _ := Place(d); at != 1_000_000 || Code(d) != api.ErrFragment {
		t.Errorf("P1.1: Deeper of a million faults: %d, %d", at, Code(d))
	}
}

// A fault that leads back to itself has no end, and no number; asking it ends all the same.
func TestCircles(t *testing.T) {
	for n := 1; n < 8; n++ {
		for lead := range 4 {
			e, at := ring(n), 1
			for i := range lead {
				e, at = Wrap(10+i, outer{e}), 10+i
			}
			got, is := Place(e)
			if Code(e) != 0 || got != at || !is {
				t.Errorf("P1.1: a circle of %d behind %d: %d, %d, %v; want 0, %d, true", n, lead, Code(e), got, is, at)
			}
			if f, ok := Deeper(5, e).(*api.Fault); !ok || f.At != 5+at || f.Err != error(api.Errno(0)) {
				t.Errorf("P1.1: Deeper of a circle of %d behind %d: %v; want one at %d with 0 in it", n, lead, ok, 5+at)
			}
		}
	}
	f := &api.Fault{At: 3}
	f.Err = errors.Join(errOther, f)
	if at, _ := Place(f); Code(f) != 0 || at != 3 {
		t.Errorf("P1.1: a circle through joined errors: %d, %d", Code(f), at)
	}
}
