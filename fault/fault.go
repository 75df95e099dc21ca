// Package fault ends a row of steps at the first error: it is a panic, caught at the face of whoever takes the steps.
package fault

import "plinth/api"

// stopped is the value of a panic by which a row of steps ends.
type stopped struct{ errno api.Errno }

// Stop ends a row of steps, if there is an error.
func Stop(e api.Errno) {
	if e != api.OK {
		panic(stopped{e})
	}
}

// Catch is deferred at a face: what stopped the steps is its error. Any other panic goes on.
func Catch(e *api.Errno) {
	x := recover()
	if x == nil {
		return
	}
	s, ok := x.(stopped)
	if !ok {
		panic(x)
	}
	*e = s.errno
}
