package node

import (
	"errors"
	"strconv"

	"hustings/api"
)

// fault is what is thrown where a node is not as it must be: nodes lie within nodes, and what is wrong with one is wrong
// with all around it.
type fault struct{ errno api.Errno }

func (f fault) Error() string { return "a node is not as it must be: " + strconv.Itoa(int(f.errno)) }

// throw throws a fault, if something is wrong.
func throw(e api.Errno) {
	if e != api.OK {
		panic(fault{e})
	}
}

// must throws ErrForm, if something is not as it must be.
func must(ok bool) {
	if !ok {
		throw(api.ErrForm)
	}
}

// thrownBy does some work, and is the errno of the fault that is thrown by it, if there is one. Whatever else would be
// thrown is no fault of a node, and is not made to look like one.
func thrownBy(work func()) (e api.Errno) {
	defer func() {
		x := recover()
		if x == nil {
			return
		}
		var f fault
		if err, ok := x.(error); ok && errors.As(err, &f) {
			e = f.errno
			return
		}
		panic(x)
	}()
	work()
	return api.OK
}
