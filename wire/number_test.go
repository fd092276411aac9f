package wire_test

import (
	"math"
	"math/rand/v2"
	"strconv"
	"testing"

	"hustings/api"
	"hustings/wire"
)

func TestW2Number(t *testing.T) {
	for n, want := range map[int]string{
		0: "0", 1: "1", 9: "9", 10: "10", 100: "100", 1234567890: "1234567890",
		1<<40 - 1: "1099511627775", 1 << 40: "1099511627776",
	} {
		if got, e := wire.Number(n); got != want || e != api.OK {
			t.Errorf("Number of %d: %q %d comes, not %q", n, got, e, want)
		}
	}
	for _, n := range []int{-1, -10, 1<<40 + 1, 1 << 41, math.MaxInt, math.MinInt} {
		if got, e := wire.Number(n); got != "" || e != api.ErrRange {
			t.Errorf("Number of %d: %q %d comes, not ErrRange", n, got, e)
		}
	}
}

// reads: what ReadNumber must answer.
func reads(t *testing.T, s string, want int, wantErrno api.Errno) {
	t.Helper()
	if got, e := wire.ReadNumber(s); got != want || e != wantErrno {
		t.Errorf("ReadNumber of %s: %d %d comes, not %d %d", short(s), got, e, want, wantErrno)
	}
}

func TestW2ReadNumber(t *testing.T) {
	for _, n := range []int{0, 1, 7, 9, 10, 99, 100, 1<<40 - 1, 1 << 40} {
		reads(t, strconv.Itoa(n), n, api.OK)
	}
	dice := rand.New(rand.NewPCG(4, 3))
	for range 1000 {
		n := dice.IntN(1<<40+1) >> dice.IntN(40)
		s, e := wire.Number(n)
		if e != api.OK {
			t.Errorf("Number of %d: %d comes", n, e)
		}
		reads(t, s, n, api.OK)
	}
}

func TestW2ReadNumberRange(t *testing.T) {
	for _, s := range []string{
		"1099511627777", "1099511627780", "9999999999999", "10995116277760", "9223372036854775807", "9223372036854775808",
		"18446744073709551615", "18446744073709551616", "18446744073709551617", "340282366920938463463374607431768211457",
		repeated("9", 4000), repeated("1", 4001), "1" + repeated("0", 100_000),
	} {
		reads(t, s, 0, api.ErrRange)
	}
}

func TestW2ReadNumberForm(t *testing.T) {
	for _, s := range []string{
		"", "00", "007", "01", "0 ", " 0", "1 ", " 1", "+1", "-1", "-0", "1.", "1.0", "1e3", "0x1", "1_000", "1,000", "a", "1a", "a1",
		"1\x00", "\x001", "\xff", "1\xff", "\xd9\xa1", "\xef\xbc\x91", "1\n", "/", ":", "1/", "1:", "01099511627777",
		"0" + repeated("9", 4000), repeated("9", 4000) + "a", repeated("1", 5000) + " ",
	} {
		reads(t, s, 0, api.ErrForm)
	}
}
