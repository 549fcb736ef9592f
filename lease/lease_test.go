package lease_test

import (
	"math"
	"slices"
	"strings"
	"testing"

	"yardarm/api"
	"yardarm/lease"
)

// F1: pools that are right, up to the widest one and to as many kept as may be.
func TestPool(t *testing.T) {
	for _, p := range pools() {
		poolIs(t, p, api.OK)
	}
	poolIs(t, api.Pool{Prefix: api.Prefix{Addr: four(8), Bits: 30}, Kept: []api.Addr{}}, api.OK)
}

// F1: what is wrong with a pool: its prefix, how many addresses, how many kept, and these one by one: the first of them of which something is wrong tells.
func TestPoolWrong(t *testing.T) {
	noAddr := api.Addr{Hi: 1}
	seven := []api.Addr{four(0), four(1), four(2), four(3), four(4), four(5), four(6)}
	for want, l := range map[api.Errno][]api.Pool{
		api.ErrRange: {
			pool(four(0), 33), pool(four(0), -1), pool(four(1), 33), pool(noAddr, 32), pool(sixteen(0, 0), 129),
			pool(four(0), math.MinInt), pool(four(0), math.MaxInt), pool(four(0), 33, seven...), pool(four(1<<32), 32),
			pool(four(8), 30, noAddr), pool(four(8), 30, four(1<<32)), pool(four(8), 30, four(9), noAddr), pool(four(8), 30, noAddr, four(12)),
			pool(four(8), 30, noAddr, four(9), four(8)),
		},
		api.ErrState: {
			pool(four(1), 31), pool(four(1), 0), pool(sixteen(0, 1), 127), pool(four(1), 0, seven...),
			pool(four(8), 30, four(9), four(8)), pool(four(8), 30, four(9), four(9)), pool(four(8), 30, four(8), four(11), four(10)),
			pool(four(8), 30, four(9), four(8), noAddr), pool(four(8), 30, four(9), four(8), four(12)), pool(sixteen(2, 0), 126, sixteen(2, 3), sixteen(2, 1)),
		},
		api.ErrMany: {
			pool(four(0), 27), pool(four(0), 0), pool(sixteen(0, 0), 123), pool(sixteen(0, 0), 0), pool(sixteen(4, 0), 62), pool(sixteen(5, 0), 64), pool(sixteen(5, 0), 65),
			pool(four(0), 28, seven...), pool(four(0), 27, noAddr), pool(four(0), 27, four(5), four(4)), pool(four(0), 28, make([]api.Addr, 7)...),
			pool(four(0), 28, slices.Repeat([]api.Addr{noAddr}, 7)...), pool(four(0), 28, make([]api.Addr, 1<<20)...),
		},
		api.ErrNone: {
			pool(four(8), 30, four(7)), pool(four(8), 30, four(12)), pool(four(8), 30, sixteen(0, 8)), pool(sixteen(0, 8), 126, four(8)),
			pool(sixteen(1, 0), 126, sixteen(0, 0)), pool(sixteen(1, 0), 126, sixteen(2, 1)), pool(four(8), 30, four(8), four(12)),
			pool(four(8), 30, four(9), four(7)), pool(four(8), 30, four(12), noAddr), pool(four(8), 30, four(12), four(8)),
		},
	} {
		for _, p := range l {
			poolIs(t, p, want)
			checkIs(t, p, make([]api.Lease, api.MaxLeases+1), -1, want)
			grantIs(t, p, make([]api.Lease, api.MaxLeases+1), "?", -1, -1, nil, nowhere, want)
		}
	}
}

// F1: those whose Until is before now go, at the time itself they stay; the others stay as they are.
func TestDrop(t *testing.T) {
	l := []api.Lease{{Addr: four(3), Who: "a", Until: 5}, {Addr: four(9), Who: "b", Until: 0}, {Addr: four(10), Who: "a", Until: 10499}, {Addr: sixteen(0, 1), Who: "zz99", Until: 6}}
	for now, want := range map[int][]api.Lease{
		0:    l,
		1:    {l[0], l[2], l[3]},
		5:    {l[0], l[2], l[3]},
		6:    {l[2], l[3]},
		7:    {l[2]},
		9999: {l[2]},
	} {
		dropIs(t, l, now, want, len(l)-len(want), api.OK)
	}
	dropIs(t, nil, 0, nil, 0, api.OK)
	dropIs(t, []api.Lease{}, 9999, nil, 0, api.OK)
	dropIs(t, l[1:2], 1, nil, 1, api.OK)
}

// F1: as many leases as may be, not all of one pool.
func TestDropMany(t *testing.T) {
	var l, odd []api.Lease
	for i := range api.MaxLeases {
		one := api.Lease{Addr: four(uint64(100 * i)), Who: "a", Until: 7 + i%2}
		if l = append(l, one); i%2 == 1 {
			odd = append(odd, one)
		}
	}
	dropIs(t, l, 7, l, 0, api.OK)
	dropIs(t, l, 8, odd, len(odd), api.OK)
	dropIs(t, l, 9, nil, len(l), api.OK)
}

// wrongLeases: lists of which something is wrong, and what it is, each in a pool that has the addresses. How many comes first, then whether each is right, the first one that is not telling; whether they rise comes behind that.
func wrongLeases() map[api.Errno][][]api.Lease {
	good := api.Lease{Addr: four(9), Who: "a", Until: 5}
	noAddr, noWho, noTime := good, good, good
	noAddr.Addr, noWho.Who, noTime.Until = api.Addr{Hi: 1}, "A", -1
	none := api.Lease{Addr: api.Addr{Hi: 1}, Until: -1}
	back := api.Lease{Addr: four(8), Who: "b", Until: 5}
	late, first, last := good, good, good
	late.Until, first.Until, last.Until = 10500, math.MinInt, math.MaxInt
	both := noWho
	both.Until = -1
	return map[api.Errno][][]api.Lease{
		api.ErrMany:  {make([]api.Lease, api.MaxLeases+1), slices.Repeat([]api.Lease{noAddr}, api.MaxLeases+1), make([]api.Lease, 1<<20)},
		api.ErrRange: {{noAddr}, {none}, {noTime}, {late}, {first}, {last}, {good, noAddr}, {noAddr, noWho}, {good, back, noTime}, {noTime, noWho, back}},
		api.ErrForm:  {{noWho}, {both}, {good, noWho}, {noWho, noAddr}, {good, good, noWho}, {good, back, noWho, noTime}},
		api.ErrState: {{good, back}, {good, good}, {good, {Addr: four(9), Who: "b", Until: 5}}, {{Addr: sixteen(0, 1), Who: "b", Until: 5}, good}, {back, good, back}},
	}
}

// F1, F2, P1: leases that are wrong, with nothing beside the error; whatever else is wrong comes behind.
func TestLeasesWrong(t *testing.T) {
	p := pool(four(8), 30)
	for want, lists := range wrongLeases() {
		for _, l := range lists {
			for _, now := range []int{0, 6, 9999, -1, 10000, math.MinInt, math.MaxInt} {
				dropIs(t, l, now, nil, 0, want)
				checkIs(t, p, l, now, want)
				grantIs(t, p, l, "?", now, 0, nil, nowhere, want)
			}
		}
	}
}

// F1, F2: a time that is none comes behind the leases, and ahead of the pool's having them, and of names met twice.
func TestNowWrong(t *testing.T) {
	p := pool(four(8), 30)
	for _, l := range [][]api.Lease{nil, leases(p, held{1, "a", 5}), leases(p, held{9, "a", 5}), leases(p, held{1, "a", 5}, held{2, "a", 5})} {
		for _, now := range []int{-1, 10000, math.MinInt, math.MaxInt} {
			dropIs(t, l, now, nil, 0, api.ErrRange)
			checkIs(t, p, l, now, api.ErrRange)
			grantIs(t, p, l, "?", now, 0, nil, nowhere, api.ErrRange)
		}
	}
}

// F1: names: from one to eight bytes, small letters and digits alone.
func TestWho(t *testing.T) {
	p := pool(four(8), 30)
	for _, who := range []string{"a", "z", "0", "9", "abcdefgh", "12345678", "a0z9", "00000000"} {
		l := leases(p, held{1, who, 5})
		dropIs(t, l, 5, l, 0, api.OK)
		checkIs(t, p, l, 5, api.OK)
		grantIs(t, p, nil, who, 5, 1, leases(p, held{0, who, 6}), at(p, 0), api.OK)
	}
	for _, who := range []string{"", "abcdefghi", "A", "Z", "aB", " ", "a b", "a ", " a", "-", "_", "`", "{", "/", ":", "\x00", "\n", "é", "\u0661", "\xff", "a\x00", strings.Repeat("a", 1<<20)} {
		l := leases(p, held{1, who, 5})
		dropIs(t, l, 5, nil, 0, api.ErrForm)
		checkIs(t, p, l, 5, api.ErrForm)
		grantIs(t, p, nil, who, 5, 1, nil, nowhere, api.ErrForm)
	}
	for b := range 256 {
		who := string([]byte{'a', byte(b)})
		_, _, e := lease.Grant(p, nil, who, 5, 1)
		if want := strings.IndexByte("abcdefghijklmnopqrstuvwxyz0123456789", byte(b)) >= 0; (e == api.OK) != want {
			t.Errorf("%q: %d", who, e)
		}
	}
}

// F2: leases of a pool that are right: over or not, of what is kept back, at both ends, and as many as there are.
func TestCheck(t *testing.T) {
	for _, p := range pools() {
		var l []api.Lease
		for i := range many(p) {
			l = append(l, leases(p, held{uint64(i), string([]byte{byte('a' + i)}), i})...)
			for _, now := range []int{0, 3, 9999} {
				checkIs(t, p, l, now, api.OK)
				checkIs(t, p, l[i:], now, api.OK)
			}
		}
	}
}

// F2: what the pool has not, and names met twice, lease by lease; one that is over counts too.
func TestCheckWrong(t *testing.T) {
	p := pool(four(8), 30)
	out := api.Lease{Addr: four(12), Who: "a", Until: 5}
	below := api.Lease{Addr: four(7), Who: "a", Until: 5}
	other := api.Lease{Addr: sixteen(0, 8), Who: "z", Until: 5}
	for want, lists := range map[api.Errno][][]api.Lease{
		api.ErrNone: {
			{out}, {below}, {other}, append(leases(p, held{0, "b", 5}), out), append(leases(p, held{0, "a", 5}), out), append(leases(p, held{3, "a", 5}), other),
			append([]api.Lease{below}, leases(p, held{0, "a", 5})...),
		},
		api.ErrTwice: {
			leases(p, held{0, "a", 5}, held{1, "a", 6}),
			leases(p, held{0, "a", 0}, held{1, "b", 6}, held{3, "a", 7}),
			append(leases(p, held{0, "a", 5}, held{1, "a", 5}), other),
			leases(p, held{0, "a", 5}, held{1, "b", 5}, held{2, "b", 5}),
		},
	} {
		for _, l := range lists {
			for _, now := range []int{0, 5, 6, 9999} {
				checkIs(t, p, l, now, want)
				grantIs(t, p, l, "?", now, 0, nil, nowhere, want)
			}
		}
	}
}
