// Package fault ends a row of steps at the first error: it is a panic, caught at the face of whoever takes the steps.
package fault

import "plinth/api"

// stopped is the value of a panic by which a row of steps ends.
type stopped struct{ errno api.Errno }

// Stop ends a row of steps, if there is an error.
func Stop(e api.Errno) {
	if e != api.OK {
		panic(stopped{e})
	}
}

// Caught tells the error of a face behind its steps, whose deferred function hands in what it recovers, and the error so far. A panic that is no fault goes on.
func Caught(recovered any, e api.Errno) api.Errno {
	if recovered == nil {
		return e
	}
	s, ok := recovered.(stopped)
	if !ok {
		panic(recovered)
	}
	return s.errno
}
