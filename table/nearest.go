package table

import (
	"yardarm/api"
	"yardarm/prefix"
)

// standing: which prefix stands below which, by their places; one that stands below none is not there.
func standing(l []api.Prefix) map[int]int {
	above := map[int]int{}
	for i, p := range l {
		// Whatever else has p rises ahead of it, so that is where to look.
		k, ok := nearest(l[:i], func(q api.Prefix) bool {
			has, _ := prefix.Has(q, p) // both were looked at by Check
			return has
		})
		if ok {
			above[i] = k
		}
	}
	return above
}

// nearest of the prefixes that are looked for, all of which have some address in common: the last one, as a table rises, and so has the one with more bits behind.
func nearest(l []api.Prefix, wanted func(api.Prefix) bool) (int, bool) {
	for i := len(l) - 1; i >= 0; i-- {
		if wanted(l[i]) {
			return i, true
		}
	}
	return 0, false
}
