package wire

import "hustings/api"

// thrownBy does some work, and is the error that is thrown by it, if there is one: nodes lie within nodes,
// and what is wrong with one is wrong with all around it. Whatever else would be thrown is no error of a node,
// and is not made to look like one.
func thrownBy(work func()) (e api.Errno) {
	defer func() {
		if x := recover(); x != nil {
			e = x.(api.Errno)
		}
	}()
	work()
	return api.OK
}
