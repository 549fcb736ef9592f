package pick_test

import (
	"testing"

	"yardarm/api"
	"yardarm/prefix"
)

func four(lo uint64, bits int) api.Prefix {
	return api.Prefix{Addr: api.Addr{Lo: lo}, Bits: bits}
}

func sixteen(hi, lo uint64, bits int) api.Prefix {
	return api.Prefix{Addr: api.Addr{V6: true, Hi: hi, Lo: lo}, Bits: bits}
}

// nothing is the prefix that stands beside an error.
var nothing api.Prefix

// deep is how many bits a world has below its top.
const deep = 4

// tops of worlds: of both kinds, at the first address, at the last one, down to single addresses or not, and where the greater half of an address meets the lesser one.
func tops() []api.Prefix {
	return []api.Prefix{
		four(0, 0),
		four(0, 28),
		four(0x0a000000, 8),
		four(1<<32-16, 28),
		sixteen(0, 0, 0),
		sixteen(1<<63|4, 0, 62),
		sixteen(5, 0, 64),
		sixteen(1<<64-1, 1<<64-16, 124),
	}
}

// world: all prefixes from a top on down to the single parts, level by level, each level rising.
func world(t *testing.T, top api.Prefix) [][]api.Prefix {
	t.Helper()
	levels := [][]api.Prefix{{top}}
	for range deep {
		var next []api.Prefix
		for _, p := range levels[len(levels)-1] {
			x, y, e := prefix.Halves(p)
			if e != api.OK {
				t.Fatalf("Halves of %v: %d", p, e)
			}
			next = append(next, x, y)
		}
		levels = append(levels, next)
	}
	return levels
}

// meets: has a prefix an address in common with one of a list?
func meets(p api.Prefix, used []api.Prefix) bool {
	for _, u := range used {
		above, _ := prefix.Has(u, p)
		below, _ := prefix.Has(p, u)
		if above || below {
			return true
		}
	}
	return false
}

// widest prefixes of a world that meet none of used, told from the top down, and so by nothing that the program cuts with.
func widest(levels [][]api.Prefix, level, at int, used []api.Prefix) []api.Prefix {
	if level == len(levels) {
		return nil
	}
	if p := levels[level][at]; !meets(p, used) {
		return []api.Prefix{p}
	}
	return append(widest(levels, level+1, 2*at, used), widest(levels, level+1, 2*at+1, used)...)
}

// firstOf a level that meets none of used.
func firstOf(level []api.Prefix, used []api.Prefix) (api.Prefix, api.Errno) {
	for _, p := range level {
		if !meets(p, used) {
			return p, api.OK
		}
	}
	return nothing, api.ErrFull
}

// draw numbers for lists that are long, the same each time.
type draw uint64

func (d *draw) below(n int) int {
	*d = *d*6364136223846793005 + 1442695040888963407
	return int(uint64(*d) >> 33 % uint64(n))
}
