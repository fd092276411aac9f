package audit

import (
	"hustings/api"
	"hustings/long"
)

// digitsMost is how many digits each term of a risk and of a share may have.
const digitsMost = 100

// readShort is the fraction that a Frac is, if its terms are short; false, if it is none.
func readShort(x api.Frac) (long.Fraction, bool) {
	if len(x.Num) > digitsMost || len(x.Den) > digitsMost {
		return long.Fraction{}, false
	}
	return long.Read(x)
}

// readRisk is the risk that a Frac is, and what is wrong with it.
func readRisk(x api.Frac) (long.Fraction, api.Errno) {
	risk, ok := readShort(x)
	switch {
	case !ok:
		return long.Fraction{}, api.ErrForm
	case risk.Num.IsZero() || risk.Compare(whole(1)) > 0:
		return long.Fraction{}, api.ErrRange
	}
	return risk, api.OK
}

// readShare is the winner's share that a Frac is; false, if it is none.
func readShare(x api.Frac) (long.Fraction, bool) {
	share, ok := readShort(x)
	if !ok || twice(share).Compare(whole(1)) <= 0 || share.Compare(whole(1)) > 0 {
		return long.Fraction{}, false
	}
	return share, true
}

// whole is a number as a fraction.
func whole(n int) long.Fraction { return long.Fraction{Num: long.Small(n), Den: long.Small(1)} }

func twice(f long.Fraction) long.Fraction { return whole(2).Times(f) }

// stakes are what odds are multiplied by, and how high they must come.
type stakes struct {
	gain, loss long.Fraction // by a ballot for the winner alone, by one for the loser alone
	enough     long.Fraction // odds that are not below it are settled
}

func stakesOf(share long.Fraction, risk long.Fraction) stakes {
	gain := twice(share)
	return stakes{gain: gain, loss: whole(2).Minus(gain), enough: long.Fraction{Num: risk.Den, Den: risk.Num}}
}

// settles tells whether odds are high enough.
func (s stakes) settles(odds long.Fraction) bool { return odds.Compare(s.enough) >= 0 }

// readOdds are the odds that a Frac is, however long they are; false, if it is none. The denominators of odds that Draw has told
// are powers of gain's, which is loss's too: where that has no divisor in common with Num, its powers have none.
func (s stakes) readOdds(x api.Frac) (long.Fraction, bool) {
	odds, ok := long.Terms(x)
	if !ok {
		return long.Fraction{}, false
	}
	rest := odds.Den
	if known := s.gain.Den; !known.IsOne() && odds.Num.Gcd(known).IsOne() {
		rest = rest.Without(known)
	}
	if !odds.Num.Gcd(rest).IsOne() {
		return long.Fraction{}, false
	}
	return odds, true
}
