package ballot

import (
	"hustings/api"
	"hustings/group"
)

// contest is one with its place in the manifest.
type contest struct {
	api.Contest
	place int
}

// sheet is the contests that stand on the ballots of a precinct, in order, in the group of their election.
type sheet struct {
	ground
	contests []contest
}

// sheetOf is that of a precinct; m is a manifest that nothing is wrong with.
func sheetOf(m api.Manifest, precinct int) (sheet, api.Errno) {
	if precinct < 0 || precinct >= len(m.Precincts) {
		return sheet{}, api.ErrRange
	}
	s := sheet{ground: ground{m.Kind}}
	for _, place := range m.Styles[m.Precincts[precinct].Style].Contests {
		s.contests = append(s.contests, contest{m.Contests[place], place})
	}
	return s, api.OK
}

// wrongChoices is what is wrong with choices.
func (s sheet) wrongChoices(choices [][]int) api.Errno {
	if len(choices) != len(s.contests) {
		return api.ErrForm
	}
	for i, c := range s.contests {
		if e := Fits(c.Contest, choices[i]); e != api.OK {
			return e
		}
	}
	return api.OK
}

// wrongParts is what is wrong with the parts of a hidden ballot, whatever its proofs say.
func (s sheet) wrongParts(parts []api.Part) api.Errno {
	if len(parts) != len(s.contests) {
		return api.ErrForm
	}
	for i, c := range s.contests {
		if c.misfits(parts[i]) {
			return api.ErrForm
		}
	}
	for _, p := range parts {
		if s.strange(p.Ciphers) {
			return api.ErrElem
		}
	}
	return api.OK
}

// misfits tells whether a part has not what one of this contest must have.
func (c contest) misfits(p api.Part) bool {
	return len(p.Ciphers) != len(c.Options) || len(p.Proofs) != len(c.Options) ||
		!c.summed() && (len(p.Sum.Challenges) > 0 || len(p.Sum.Answers) > 0)
}

// summed tells whether the sum of the marks is proven too.
func (c contest) summed() bool { return c.Rule == api.RulePlural }

// opened is what the parts of a ballot hide, by whoever knows the secret.
func (s sheet) opened(secret string, parts []api.Part) ([][]int, api.Errno) {
	choices := make([][]int, len(parts))
	for i, c := range s.contests {
		for _, cipher := range parts[i].Ciphers {
			x, e := group.Log(s.kind, s.shown(secret, cipher), top(c.Contest))
			if e != api.OK {
				return nil, e
			}
			choices[i] = append(choices[i], x)
		}
	}
	return choices, api.OK
}
