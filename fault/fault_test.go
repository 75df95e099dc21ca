package fault

import (
	"testing"

	"plinth/api"
)

func steps(l ...api.Errno) (n int, e api.Errno) {
	defer func() { e = Caught(recover(), e) }()
	for _, x := range l {
		Stop(x)
		n++
	}
	return n, api.OK
}

func TestStop(t *testing.T) {
	if n, e := steps(api.OK, api.OK); n != 2 || e != api.OK {
		t.Error(n, e)
	}
	if n, e := steps(api.OK, api.ErrShort, api.ErrArg); n != 1 || e != api.ErrShort {
		t.Error(n, e)
	}
}

func TestOtherPanics(t *testing.T) {
	defer func() {
		if recover() != "other" {
			t.Error("a panic that is no fault was caught")
		}
	}()
	var e api.Errno
	defer func() { e = Caught(recover(), e) }()
	panic("other")
}
