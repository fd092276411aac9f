package group

import "hustings/api"

// log is the least n from 0 to most for which BASE to the n is a. The first powers are laid down, as many as the steps
// that are then gone back from a, each as long as all of them: so there are few of either.
func (g *ground) log(a number, most int) (int, api.Errno) {
	stride := 1
	for stride*stride <= most {
		stride++
	}
	laid, power := g.firstPowers(stride)
	back := g.elems.enter(g.elems.inverse(g.elems.leave(power)))
	rest := g.elems.enter(a)
	for from := 0; from <= most; from += stride {
		if n, ok := laid[g.signed(rest)]; ok && from+n <= most {
			return from + n, api.OK
		}
		rest = g.elems.joined(rest, back)
	}
	return 0, api.ErrNone
}

// firstPowers is by which number below count each of BASE's first powers comes, the least if they come round; and the power
// by count. All are within.
func (g *ground) firstPowers(count int) (map[number]int, number) {
	laid := make(map[number]int, count)
	power := g.elems.one
	for n := range count {
		key := g.signed(power)
		if _, there := laid[key]; !there {
			laid[key] = n
		}
		// BASE is 2.
		power = g.elems.plus(power, power)
	}
	return laid, power
}
