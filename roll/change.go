package roll

import (
	"hustings/api"
	"hustings/fold"
	"hustings/group"
	"hustings/kit"
	"hustings/sigma"
)

// deed is one of the things that a change can do.
type deed struct {
	joins        bool // it is done to whoever has never stood on the roll: all others to who does
	places, keys bool // it has a Precinct, a Key
	// does does it to a voter: false, if they stand on the roll no more.
	does func(v *api.Voter, c api.Change) bool
}

// deedOf is the one with a number; false, if there is none.
func deedOf(do int) (deed, bool) {
	switch do {
	case api.ChangeJoin:
		return deed{joins: true, places: true, keys: true, does: func(v *api.Voter, c api.Change) bool {
			*v = api.Voter{Id: c.Id, Precinct: c.Precinct, Key: c.Key}
			return true
		}}, true
	case api.ChangeMove:
		return deed{places: true, does: func(v *api.Voter, c api.Change) bool {
			v.Precinct = c.Precinct
			return true
		}}, true
	case api.ChangeKey:
		return deed{keys: true, does: func(v *api.Voter, c api.Change) bool {
			v.Key = c.Key
			return true
		}}, true
	case api.ChangeStrike:
		return deed{does: func(*api.Voter, api.Change) bool { return false }}, true
	}
	return deed{}, false
}

// misfits tells whether a change is not of the form that its deed asks for.
func (d deed) misfits(c api.Change) bool {
	return !kit.Word(c.Id) || !d.places && c.Precinct != 0 || !d.keys && c.Key != ""
}

// changeText is what is signed of a change.
func changeText(digest string, number int, c api.Change) string {
	return fold.Tag("change", []string{digest, kit.Four(number), kit.Four(c.Do), c.Id, kit.Four(c.Precinct), c.Key})
}

// wrong tells what is wrong with a change, whoever stands on the roll.
func (r *Roll) wrong(d deed, c api.Change) api.Errno {
	switch {
	case !within(c.Precinct, 0, r.precincts-1):
		return api.ErrRange
	case d.keys && !group.Member(r.kind, c.Key):
		return api.ErrElem
	case !sigma.Signed(r.kind, r.registrar, changeText(r.digest, r.changes, c), c.Sign):
		return api.ErrProof
	}
	return api.OK
}

// hinders tells what hinders a change, as the roll stands.
func (r *Roll) hinders(d deed, c api.Change) api.Errno {
	_, stands := r.voters[c.Id]
	_, stood := r.ids[c.Id]
	_, used := r.keys[c.Key]
	switch {
	case d.joins && stood:
		return api.ErrTwice
	case !d.joins && !stands:
		return api.ErrNone
	case d.keys && used:
		return api.ErrTwice
	case d.joins && len(r.ids) >= idsMost:
		return api.ErrFull
	}
	return api.OK
}

// do applies a change that nothing is wrong with and that nothing hinders.
func (r *Roll) do(d deed, c api.Change) {
	v := r.voters[c.Id]
	if d.does(&v, c) {
		r.voters[c.Id] = v
	} else {
		delete(r.voters, c.Id)
	}
	r.ids[c.Id] = struct{}{}
	if d.keys {
		r.keys[c.Key] = struct{}{}
	}
	r.changes++
}
