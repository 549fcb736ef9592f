package pick_test

import (
	"math"
	"slices"
	"testing"

	"yardarm/api"
	"yardarm/pick"
)

// refuses: both calls answer an error, and nothing beside it (P1); bits are right or not.
func refuses(t *testing.T, p api.Prefix, used []api.Prefix, want api.Errno) {
	t.Helper()
	shown := used[:min(len(used), api.MaxList+1)]
	if l, e := pick.Free(p, used); len(l) != 0 || e != want {
		t.Errorf("Free of %v, used %v: %v %d, and must be %d", p, shown, l, e, want)
	}
	for _, bits := range []int{p.Bits, 32, -1, 129} {
		if q, e := pick.First(p, used, bits); q != nothing || e != want {
			t.Errorf("First of %v, used %v, bits %d: %v %d, and must be %d", p, shown, bits, q, e, want)
		}
	}
}

// E1, P1, P4: p comes first, then how many are used (far beyond the limit too), then the first of them that is wrong.
func TestErrors(t *testing.T) {
	good, wide, loose := four(8, 29), four(0, 33), four(1, 31)
	noAddr := api.Prefix{Addr: api.Addr{Hi: 1}, Bits: -1}
	many := slices.Repeat([]api.Prefix{good}, api.MaxList+1)
	lists := [][]api.Prefix{nil, {good}, {loose}, {wide}, many}
	for _, used := range lists {
		refuses(t, wide, used, api.ErrRange)
		refuses(t, loose, used, api.ErrState)
		refuses(t, noAddr, used, api.ErrRange)
		refuses(t, sixteen(0, 1, 127), used, api.ErrState)
		refuses(t, sixteen(0, 0, math.MaxInt), used, api.ErrRange)
		refuses(t, four(0, math.MinInt), used, api.ErrRange)
	}
	refuses(t, good, many, api.ErrMany)
	refuses(t, good, make([]api.Prefix, 1<<20), api.ErrMany)
	many[0] = loose
	refuses(t, good, many, api.ErrMany)
	refuses(t, good, []api.Prefix{noAddr}, api.ErrRange)
	refuses(t, good, []api.Prefix{good, loose, wide}, api.ErrState)
	refuses(t, good, []api.Prefix{good, wide, loose}, api.ErrRange)
	refuses(t, good, append(slices.Clone(many[1:api.MaxList]), loose), api.ErrState)
	refuses(t, sixteen(0, 0, 0), []api.Prefix{loose}, api.ErrState)
	freeIs(t, good, many[1:], nil)
}

// E1: bits that are less than p's, or more than there are, of each kind; that comes ahead of there being no room.
func TestFirstBits(t *testing.T) {
	for _, used := range [][]api.Prefix{nil, {four(0, 0)}, {sixteen(0, 0, 0)}} {
		for _, bits := range []int{math.MinInt, -1, 0, 28, 33, 128, 129, math.MaxInt} {
			firstIs(t, four(8, 29), used, bits, nothing, api.ErrRange)
		}
		for _, bits := range []int{math.MinInt, -1, 0, 32, 63, 129, math.MaxInt} {
			firstIs(t, sixteen(1, 0, 64), used, bits, nothing, api.ErrRange)
		}
		firstIs(t, four(0, 0), used, -1, nothing, api.ErrRange)
		firstIs(t, four(5, 32), used, 31, nothing, api.ErrRange)
		firstIs(t, sixteen(0, 0, 128), used, 127, nothing, api.ErrRange)
	}
}

// P2, P3: a list is only read, the room behind it too; an answer is the caller's, and is the same each time.
func TestOnlyRead(t *testing.T) {
	space := []api.Prefix{four(6, 31), four(0, 32), four(77, 32), four(78, 32)}
	was := slices.Clone(space)
	for _, n := range []int{0, 1, 2} {
		used := space[:n]
		first, _ := pick.Free(four(0, 29), used)
		one, _ := pick.First(four(0, 29), used, 31)
		kept := slices.Clone(first)
		again, _ := pick.Free(four(0, 29), used)
		clear(again[:cap(again)])
		if !slices.Equal(space, was) || !slices.Equal(first, kept) {
			t.Fatalf("%v was %v, %v was %v", space, was, first, kept)
		}
		freeIs(t, four(0, 29), used, kept)
		firstIs(t, four(0, 29), used, 31, one, api.OK)
		clear(space)
		if !slices.Equal(first, kept) {
			t.Errorf("an answer changes with the list: %v was %v", first, kept)
		}
		copy(space, was)
	}
}
