package state_test

import (
	"math"
	"slices"
	"strings"
	"testing"

	"yardarm/api"
)

// G1: states that are right.
func TestCheck(t *testing.T) {
	for _, s := range good() {
		checkIs(t, s, api.OK)
	}
}

// badNow: times that are none.
var badNow = []int{-1, 10000, math.MinInt, math.MaxInt}

// wrongPools: lists of which something is wrong, and what it is. How many comes first, then each pool by itself, the first one of which something is wrong telling; whether they rise, and have nothing in common, comes behind that.
func wrongPools() map[api.Errno][][]api.Pool {
	ok, wideOne, noBits, notFirst := pool(four(8), 30), pool(four(0), 27), pool(four(0), 33), pool(four(1), 31)
	noKept, fallen, outside := pool(four(8), 30, noAddr), pool(four(8), 30, four(9), four(8)), pool(four(8), 30, four(12))
	seven := pool(four(0), 28, four(0), four(1), four(2), four(3), four(4), four(5), four(6))
	return map[api.Errno][][]api.Pool{
		api.ErrMany: {
			make([]api.Pool, 4), make([]api.Pool, 1<<20), slices.Repeat([]api.Pool{noBits}, 4), {pool(four(0), 32), pool(four(1), 32), pool(four(2), 32), pool(four(3), 32)},
			{wideOne}, {seven}, {{}}, {ok, wideOne}, {ok, ok, seven}, {wideOne, noBits}, {pool(sixteen(0, 0), 123)},
		},
		api.ErrRange: {{noBits}, {noKept}, {pool(noAddr, 32)}, {ok, noBits}, {noBits, wideOne}, {ok, ok, noKept}, {pool(sixteen(0, 0), 129)}, {pool(four(0), -1)}},
		api.ErrNone:  {{outside}, {ok, outside}, {outside, noKept}, {pool(four(16), 30), outside}},
		api.ErrState: {
			{notFirst}, {fallen}, {ok, fallen}, {notFirst, wideOne}, {fallen, noKept},
			{pool(four(16), 30), ok}, {ok, ok}, {pool(four(0), 28), ok}, {ok, pool(four(0), 28)}, {ok, pool(four(8), 31)}, {pool(four(8), 31), ok}, {ok, pool(four(11), 32)},
			{pool(four(4), 31), ok, pool(four(10), 31)}, {pool(four(0), 28), pool(four(4), 31), pool(four(16), 30)}, {pool(four(4), 31), ok, pool(four(4), 32)},
			{pool(sixteen(0, 0), 126), pool(four(0), 32)}, {pool(sixteen(1, 0), 124), pool(sixteen(1, 15), 128)}, {pool(sixteen(1, 0), 126), pool(sixteen(0, 8), 126)},
			{pool(four(0), 28), pool(four(5), 32), pool(four(6), 32)}, {pool(four(4), 31), pool(four(16), 30), ok},
		},
	}
}

// G1, P1: pools that are wrong; whatever else is wrong comes behind.
func TestPoolsWrong(t *testing.T) {
	for want, lists := range wrongPools() {
		for _, l := range lists {
			for _, now := range append([]int{0, 7}, badNow...) {
				for _, leases := range [][]api.Lease{nil, make([]api.Lease, 21), {held(noAddr, "A", -1)}} {
					s := api.State{Pools: l, Leases: leases, Now: now}
					checkIs(t, s, want)
					doFails(t, s, api.Op{}, want)
				}
			}
		}
	}
}

// G1: pools right beside each other have nothing in common, those of the two kinds neither.
func TestPoolsBeside(t *testing.T) {
	for _, l := range [][]api.Pool{
		{pool(four(4), 30), pool(four(8), 29), pool(four(16), 32)},
		{pool(four(8), 30), pool(four(12), 30)},
		{pool(four(8), 30), pool(sixteen(0, 8), 126)},
		{pool(sixteen(1, math.MaxUint64-3), 126), pool(sixteen(2, 0), 126)},
		{pool(sixteen(0, 8), 126), pool(sixteen(1, 0), 124), pool(sixteen(1, 16), 124)},
	} {
		checkIs(t, api.State{Pools: l}, api.OK)
		slices.Reverse(l)
		checkIs(t, api.State{Pools: l}, api.ErrState)
	}
}

// wrongLeases: lists of which Drop says that something is wrong, and what it is.
func wrongLeases() map[api.Errno][][]api.Lease {
	a, b := held(four(4), "a", 7), held(four(9), "b", 7)
	return map[api.Errno][][]api.Lease{
		api.ErrMany:  {make([]api.Lease, 21), make([]api.Lease, 1<<20)},
		api.ErrRange: {{held(noAddr, "a", 7)}, {held(four(4), "a", -1)}, {held(four(4), "a", 10500)}, {held(four(4), "a", math.MaxInt)}, {b, a, held(noAddr, "", 7)}, {held(four(99), "z", 7), held(noAddr, "c", 7)}},
		api.ErrForm:  {{held(four(4), "", 7)}, {held(four(4), "A", 7)}, {held(four(4), "abcdefghi", 7)}, {a, held(four(4), "?", 7)}, {held(four(99), strings.Repeat("a", 1<<20), 0)}},
		api.ErrState: {{b, a}, {a, a}, {a, held(four(4), "b", 7)}, {held(four(99), "z", 7), a}, {b, held(four(10), "b", 7), a}, {held(sixteen(2, 0), "c", 7), a}},
	}
}

// G1: leases that are wrong by themselves: ahead of which pool has them, of names met twice, and of leases that are over.
func TestLeasesWrong(t *testing.T) {
	for want, lists := range wrongLeases() {
		for _, l := range lists {
			for _, now := range []int{0, 7, 8} {
				s := api.State{Pools: three(), Leases: l, Now: now}
				checkIs(t, s, want)
				doFails(t, s, api.Op{}, want)
			}
		}
	}
}

// G1: a time that is none comes ahead of leases, whatever is wrong with them.
func TestNowWrong(t *testing.T) {
	for _, now := range badNow {
		for _, lists := range wrongLeases() {
			for _, l := range append(lists, nil, []api.Lease{held(four(99), "a", 7)}) {
				checkIs(t, api.State{Pools: three(), Leases: l, Now: now}, api.ErrRange)
				doFails(t, api.State{Pools: three(), Leases: l, Now: now}, api.Op{}, api.ErrRange)
			}
		}
	}
}

// G1: lease by lease: no pool has it, its name was met, it is over; the first lease of which something is wrong tells.
func TestLeasesOfState(t *testing.T) {
	a, b, over := held(four(4), "a", 7), held(four(8), "b", 7), held(four(5), "o", 6)
	out, again := held(four(12), "z", 7), held(four(11), "a", 7)
	for want, lists := range map[api.Errno][][]api.Lease{
		api.ErrNone:  {{out}, {held(four(3), "a", 7)}, {held(four(6), "a", 7)}, {held(sixteen(0, 4), "a", 7)}, {held(sixteen(2, 4), "a", 7)}, {a, held(four(12), "a", 7)}, {held(four(12), "a", 0)}, {held(four(3), "a", 7), held(four(4), "a", 0)}, {a, b, out}},
		api.ErrTwice: {{a, again}, {a, b, again}, {a, b, held(sixteen(2, 0), "b", 7)}, {a, held(four(11), "a", 6)}, {a, again, out}, {a, held(four(5), "a", 7)}, {a, held(four(5), "a", 7), held(four(8), "b", 0)}},
		api.ErrState: {{over}, {a, over}, {over, out}, {over, held(four(9), "o", 7)}, {held(four(4), "a", 0)}, {a, b, held(sixteen(2, 3), "c", 6)}},
	} {
		for _, l := range lists {
			s := api.State{Pools: three(), Leases: l, Now: 7}
			checkIs(t, s, want)
			doFails(t, s, api.Op{}, want)
		}
	}
	checkIs(t, api.State{Pools: three(), Leases: []api.Lease{a, b, held(four(9), "c", 7), held(sixteen(2, 3), "d", 7)}, Now: 7}, api.OK)
	checkIs(t, api.State{Leases: []api.Lease{a}, Now: 7}, api.ErrNone)
}
