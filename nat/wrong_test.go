package nat_test

import (
	"strconv"
	"strings"
	"testing"

	"hustings/api"
	"hustings/nat"
)

// answer is what a call answers, all in one.
type answer struct {
	text string
	more string
	n    int
	frac api.Frac
}

// numberCalls are all calls that are handed two numbers, by their names.
func numberCalls() map[string]func(a, b string) (answer, api.Errno) {
	text := func(f func(a, b string) (string, api.Errno)) func(a, b string) (answer, api.Errno) {
		return func(a, b string) (answer, api.Errno) {
			s, e := f(a, b)
			return answer{text: s}, e
		}
	}
	return map[string]func(a, b string) (answer, api.Errno){
		"Add": text(nat.Add),
		"Sub": text(nat.Sub),
		"Mul": text(nat.Mul),
		"Gcd": text(nat.Gcd),
		"Div": func(a, b string) (answer, api.Errno) {
			q, r, e := nat.Div(a, b)
			return answer{text: q, more: r}, e
		},
		"Compare": func(a, b string) (answer, api.Errno) {
			n, e := nat.Compare(a, b)
			return answer{n: n}, e
		},
		"Lowest": func(a, b string) (answer, api.Errno) {
			f, e := nat.Lowest(a, b)
			return answer{frac: f}, e
		},
	}
}

// fractionCalls are all calls that are handed two fractions, by their names.
func fractionCalls() map[string]func(x, y api.Frac) (answer, api.Errno) {
	frac := func(f func(x, y api.Frac) (api.Frac, api.Errno)) func(x, y api.Frac) (answer, api.Errno) {
		return func(x, y api.Frac) (answer, api.Errno) {
			z, e := f(x, y)
			return answer{frac: z}, e
		}
	}
	return map[string]func(x, y api.Frac) (answer, api.Errno){
		"Plus":  frac(nat.Plus),
		"Minus": frac(nat.Minus),
		"Times": frac(nat.Times),
		"Over":  frac(nat.Over),
		"Order": func(x, y api.Frac) (answer, api.Errno) {
			n, e := nat.Order(x, y)
			return answer{n: n}, e
		},
	}
}

// wrongTexts are texts that are no numbers, or too long, and the error that is told of each.
func wrongTexts() map[string]api.Errno {
	wrong := map[string]api.Errno{
		nines(most + 1):     api.ErrLong,
		tens(most):          api.ErrLong,
		nines(100_000):      api.ErrLong,
		nines(most) + "a":   api.ErrForm,
		"0" + nines(most):   api.ErrForm,
		nines(10000) + ".":  api.ErrForm,
		"0" + nines(100000): api.ErrForm,
	}
	for _, s := range []string{
		"", "00", "01", "007", "a", "9a", "a9", "-1", "+1", "-0", " 1", "1 ", "1\n", "1.0", "1e3", "1_000", "1,000", "0x1", "1/2",
		"/", ":", "1/", "1:", "\x00", "1\x00", "\xff", "\xb1", "１", "1２", "٣", "²", strings.Repeat("0", most), strings.Repeat("x", most+1),
	} {
		wrong[s] = api.ErrForm
	}
	return wrong
}

// wrongFractions are Fracs that are no fractions, or too long, and the error that is told of each.
func wrongFractions() map[api.Frac]api.Errno {
	wrong := map[api.Frac]api.Errno{}
	for s, e := range wrongTexts() {
		wrong[api.Frac{Num: s, Den: "1"}] = e
		wrong[api.Frac{Num: "1", Den: s}] = e
		wrong[api.Frac{Num: "0", Den: s}] = e
		wrong[api.Frac{Num: s, Den: "0"}] = e
		wrong[api.Frac{Num: s, Den: "x"}] = api.ErrForm
		wrong[api.Frac{Num: "01", Den: s}] = api.ErrForm
		wrong[api.Frac{Num: nines(most + 1), Den: s}] = e
		wrong[api.Frac{Num: s, Den: nines(most + 1)}] = e
	}
	a, b := nines(most/2), nines(most)
	for _, s := range []string{
		"0/0", "1/0", "7/0", "0/2", "0/10", "2/2", "2/4", "4/2", "9/6", "1000000007/3000000021",
		tens(30) + "/" + tens(30), tens(most-1) + "/" + tens(20), a + "/" + b, b + "/" + a, "0/" + b, b + "/0",
	} {
		wrong[frac(s)] = api.ErrForm
	}
	return wrong
}

// short is a text in quotes, without its middle if it is long.
func short(s string) string {
	if len(s) > 40 {
		s = s[:20] + ".." + s[len(s)-20:]
	}
	return strconv.Quote(s)
}

func TestN1Numbers(t *testing.T) {
	for name, call := range numberCalls() {
		for s, want := range wrongTexts() {
			for _, other := range []string{"0", "1", "12345678901234567890", nines(most)} {
				got, e := call(s, other)
				fails(t, name+" of "+short(s)+" and "+short(other), got, e, want)
				got, e = call(other, s)
				fails(t, name+" of "+short(other)+" and "+short(s), got, e, want)
			}
		}
	}
}

func TestN1TheFirstWrongNumberTells(t *testing.T) {
	for name, call := range numberCalls() {
		for s, want := range wrongTexts() {
			for _, other := range []string{"", "x", "01", nines(most + 1)} {
				got, e := call(s, other)
				fails(t, name+" of "+short(s)+" and "+short(other), got, e, want)
			}
		}
	}
}

func TestN1Fractions(t *testing.T) {
	for name, call := range fractionCalls() {
		for x, want := range wrongFractions() {
			for _, other := range []string{"0/1", "1/3", "7/1"} {
				got, e := call(x, frac(other))
				fails(t, name+" of "+short(x.Num)+"/"+short(x.Den)+" and "+other, got, e, want)
				got, e = call(frac(other), x)
				fails(t, name+" of "+other+" and "+short(x.Num)+"/"+short(x.Den), got, e, want)
			}
		}
	}
}

func TestN1TheFirstWrongFractionTells(t *testing.T) {
	for name, call := range fractionCalls() {
		for x, want := range wrongFractions() {
			for _, other := range []string{"", "2/4", "1/0", nines(most+1) + "/1"} {
				got, e := call(x, frac(other))
				fails(t, name+" of "+short(x.Num)+"/"+short(x.Den)+" and "+short(other), got, e, want)
			}
		}
	}
}

func TestN1OneFraction(t *testing.T) {
	for x, want := range wrongFractions() {
		what := " of " + short(x.Num) + "/" + short(x.Den)
		got, e := nat.Floor(x)
		fails(t, "Floor"+what, got, e, want)
		for _, places := range []int{0, 5, 100, -1, 101} {
			got, e := nat.Show(x, places)
			fails(t, "Show"+what, got, e, want)
		}
	}
}

func TestN1LongestNumbers(t *testing.T) {
	a, b := nines(most), tens(most-1)
	for name, call := range numberCalls() {
		for _, c := range [][2]string{{a, b}, {a, a}, {b, b}, {a, "1"}} {
			if _, e := call(c[0], c[1]); e != api.OK {
				t.Errorf("%s of %s and %s: error %d", name, short(c[0]), short(c[1]), e)
			}
		}
	}
	x, y := frac(a+"/"+b), frac("1/"+a)
	for name, call := range fractionCalls() {
		if _, e := call(x, y); e != api.OK {
			t.Errorf("%s of fractions of %d digits: error %d", name, most, e)
		}
	}
	s, e := nat.Floor(x)
	same(t, "Floor", s, e, "9")
	s, e = nat.Show(x, 3)
	same(t, "Show", s, e, "9.999")
}

func TestN1Most(t *testing.T) {
	if nat.MaxDigits != most {
		t.Errorf("MaxDigits is %d", nat.MaxDigits)
	}
}
