package long

import "hustings/api"

// IsNumber tells whether a text is written as a number is (chapter 2), however long it is.
func IsNumber(text string) bool {
	for i := range len(text) {
		if text[i] < '0' || text[i] > '9' {
			return false
		}
	}
	return text == "0" || text != "" && text[0] != '0'
}

// Terms are the two numbers of a Frac, whatever divisors they have in common; false, if one of them is none, or Den is 0.
func Terms(x api.Frac) (Fraction, bool) {
	if !IsNumber(x.Num) || !IsNumber(x.Den) || x.Den == "0" {
		return Fraction{}, false
	}
	return Fraction{Of(x.Num), Of(x.Den)}, true
}

// Read is the fraction that a Frac is, however long it is; false, if it is none.
func Read(x api.Frac) (Fraction, bool) {
	f, ok := Terms(x)
	if !ok || !f.Num.Gcd(f.Den).IsOne() {
		return Fraction{}, false
	}
	return f, true
}
