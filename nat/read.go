package nat

import (
	"hustings/api"
	"hustings/long"
)

// withTwo reads two things that are handed in, and goes on with both if neither is wrong:
// of every call the first one that is wrong tells the error, ahead of all else.
func withTwo[T, V, A any](read func(T) (V, api.Errno), first T, second T, then func(V, V) (A, api.Errno)) (A, api.Errno) {
	var none A
	v, e := read(first)
	if e != api.OK {
		return none, e
	}
	w, e := read(second)
	if e != api.OK {
		return none, e
	}
	return then(v, w)
}

// readNumber is the number that a text is.
func readNumber(text string) (long.Number, api.Errno) {
	if e := wrong(text); e != api.OK {
		return nil, e
	}
	return long.Of(text), api.OK
}

// readFraction is the fraction that a Frac is.
func readFraction(x api.Frac) (long.Fraction, api.Errno) {
	if e := wrong(x.Num, x.Den); e != api.OK {
		return long.Fraction{}, e
	}
	f, ok := long.Read(x)
	if !ok {
		return long.Fraction{}, api.ErrForm
	}
	return f, api.OK
}

// wrong tells what is wrong with texts as numbers: how all of them are written, ahead of how long they are.
func wrong(texts ...string) api.Errno {
	for _, text := range texts {
		if !long.IsNumber(text) {
			return api.ErrForm
		}
	}
	for _, text := range texts {
		if len(text) > MaxDigits {
			return api.ErrLong
		}
	}
	return api.OK
}
