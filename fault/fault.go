// Package fault is layer 1: errors that say where. See shared/doc/01-fault.md.
package fault

import (
	"errors"

	"stockade/api"
)

// Wrap: a fault at that place with e in it; nil, if e is nil.
func Wrap(at int, e error) error {
	if e == nil {
		return nil
	}
	return &api.Fault{At: at, Err: e}
}

// Code: the number that is found in e; 0, if there is none.
func Code(e error) (code api.Errno) {
	// An error of somebody else's may have methods that panic: then it has no number to tell.
	defer func() {
		if recover() != nil {
			code = 0
		}
	}()
	if circular(outermost(e)) {
		return 0
	}
	if !errors.As(e, &code) {
		return 0
	}
	return code
}

// Place: where the outermost fault in e is; 0, false, if there is none.
func Place(e error) (at int, is bool) {
	defer func() {
		if recover() != nil {
			at, is = 0, false
		}
	}()
	f := outermost(e)
	if f == nil {
		return 0, false
	}
	return f.At, true
}

// Deeper: the number of e, at its place counted from by on; nil, if e is nil.
func Deeper(by int, e error) error {
	if e == nil {
		return nil
	}
	at, _ := Place(e)
	return Wrap(by+at, Code(e))
}

// outermost: the first fault that errors.As finds in e; nil, if there is none.
func outermost(e error) *api.Fault {
	var f *api.Fault
	if !errors.As(e, &f) {
		return nil
	}
	return f
}

// inner: the first fault within f; nil, if there is none.
func inner(f *api.Fault) *api.Fault {
	if f == nil {
		return nil
	}
	return outermost(f.Err)
}

// circular tells whether f leads, fault by fault, into a circle, in which a search for a number would never end.
// The second walker takes two steps to the first one's one: in a circle they meet, without a list of where they were.
func circular(f *api.Fault) bool {
	slow, fast := f, inner(f)
	for fast != nil && fast != slow {
		slow, fast = inner(slow), inner(inner(fast))
	}
	return fast != nil
}
