package sigma

import "hustings/api"

// each is what comes of each entry of a list.
func each[A, B any](l []A, do func(A) B) []B {
	out := make([]B, len(l))
	for i, x := range l {
		out[i] = do(x)
	}
	return out
}

// both is what comes of each two entries at one place, of lists that are of one length.
func both[A, B, C any](a []A, b []B, do func(A, B) C) []C {
	out := make([]C, len(a))
	for i, x := range a {
		out[i] = do(x, b[i])
	}
	return out
}

// read is what comes of each entry of a list: the first one that is wrong tells the error.
func read[A, B any](l []A, do func(A) (B, api.Errno)) ([]B, api.Errno) {
	out := make([]B, len(l))
	for i, x := range l {
		var e api.Errno
		if out[i], e = do(x); e != api.OK {
			return nil, e
		}
	}
	return out, api.OK
}
