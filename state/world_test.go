package state_test

import (
	"math"
	"slices"
	"testing"

	"yardarm/api"
	"yardarm/state"
)

func four(lo uint64) api.Addr { return api.Addr{Lo: lo} }

func sixteen(hi, lo uint64) api.Addr { return api.Addr{V6: true, Hi: hi, Lo: lo} }

func prefix(a api.Addr, bits int) api.Prefix { return api.Prefix{Addr: a, Bits: bits} }

// nowhere is the address of ops that tell none, and the one that stands beside an error.
var nowhere api.Addr

// noAddr is an address that is wrong.
var noAddr = api.Addr{Hi: 1}

func pool(a api.Addr, bits int, kept ...api.Addr) api.Pool {
	return api.Pool{Prefix: prefix(a, bits), Kept: kept}
}

func addPool(a api.Addr, bits int) api.Op {
	return api.Op{Kind: api.OpPool, Prefix: prefix(a, bits)}
}

func keep(a api.Addr) api.Op { return api.Op{Kind: api.OpKeep, Addr: a} }

func grant(who string, of, n int) api.Op {
	return api.Op{Kind: api.OpGrant, Who: who, Of: of, N: n}
}

func free(who string) api.Op { return api.Op{Kind: api.OpFree, Who: who} }

func tick(n int) api.Op { return api.Op{Kind: api.OpTick, N: n} }

// held: an address, who has it, till when.
func held(a api.Addr, who string, until int) api.Lease {
	return api.Lease{Addr: a, Who: who, Until: until}
}

// three pools: one of four bytes, one with some kept back, one of sixteen bytes.
func three() []api.Pool {
	return []api.Pool{pool(four(4), 31), pool(four(8), 30, four(8), four(10)), pool(sixteen(2, 0), 126)}
}

// wide pools, which have more addresses than there may be leases.
func wide() []api.Pool {
	return []api.Pool{pool(four(0), 28), pool(four(16), 28), pool(four(math.MaxUint32-15), 28)}
}

// crowd: the first leases of the wide pools, so many, each by another one.
func crowd(n int) []api.Lease {
	var l []api.Lease
	for i := range n {
		l = append(l, held(four(uint64(i)), string([]byte{'n', byte('a' + i)}), 50))
	}
	return l
}

// good states, of as few and of as many things as there may be.
func good() []api.State {
	full := api.State{Pools: wide(), Leases: crowd(api.MaxLeases), Now: 50}
	full.Pools[1].Kept = []api.Addr{four(16), four(17), four(20), four(21), four(30), four(31)}
	return []api.State{
		{}, {Now: 9999}, {Pools: []api.Pool{}, Leases: []api.Lease{}, Now: 5},
		{Pools: three()}, {Pools: three()[:1], Now: 3}, {Pools: wide()},
		{Pools: three(), Leases: []api.Lease{held(four(4), "a", 4), held(four(8), "b", 7), held(sixteen(2, 3), "c", 10499)}, Now: 4},
		{Pools: []api.Pool{pool(four(0), 32), pool(four(1), 32), pool(four(2), 31)}, Leases: []api.Lease{held(four(0), "a", 0), held(four(3), "b", 0)}},
		{Pools: []api.Pool{pool(four(math.MaxUint32), 32), pool(sixteen(0, 0), 128), pool(sixteen(math.MaxUint64, math.MaxUint64), 128)}},
		full,
	}
}

// like: are two states one, lists without elements being one too?
func like(a, b api.State) bool {
	pools := slices.EqualFunc(a.Pools, b.Pools, func(p, q api.Pool) bool {
		return p.Prefix == q.Prefix && slices.Equal(p.Kept, q.Kept)
	})
	return pools && slices.Equal(a.Leases, b.Leases) && a.Now == b.Now
}

// deep copy of a state.
func deep(s api.State) api.State {
	s.Pools, s.Leases = slices.Clone(s.Pools), slices.Clone(s.Leases)
	for i := range s.Pools {
		s.Pools[i].Kept = slices.Clone(s.Pools[i].Kept)
	}
	return s
}

// short form of a state, as some have lists that are long.
func short(s api.State) api.State {
	s.Pools, s.Leases = s.Pools[:min(len(s.Pools), api.MaxPools+1)], s.Leases[:min(len(s.Leases), api.MaxLeases+1)]
	return s
}

func checkIs(t *testing.T, s api.State, want api.Errno) {
	t.Helper()
	if e := state.Check(s); e != want {
		t.Errorf("Check of %v: %d, and must be %d", short(s), e, want)
	}
}

func formIs(t *testing.T, o api.Op, want api.Errno) {
	t.Helper()
	if e := state.Form(o); e != want {
		t.Errorf("Form of %v: %d, and must be %d", o, e, want)
	}
}

// doIs: what an op does, and which address it tells; what it leaves is right.
func doIs(t *testing.T, s api.State, o api.Op, want api.State, a api.Addr) {
	t.Helper()
	if x, b, e := state.Do(s, o); !like(x, want) || b != a || e != api.OK {
		t.Errorf("%v in %v: %v %v %d, and must be %v %v", o, s, x, b, e, want, a)
	}
	checkIs(t, want, api.OK)
}

// doFails: an op that has an error, with nothing beside it.
func doFails(t *testing.T, s api.State, o api.Op, want api.Errno) {
	t.Helper()
	x, a, e := state.Do(s, o)
	if len(x.Pools) != 0 || len(x.Leases) != 0 || x.Now != 0 || a != nowhere || e != want {
		t.Errorf("%v in %v: %v %v %d, and must be nothing and %d", o, short(s), x, a, e, want)
	}
}

// draw numbers for what is asked at length, the same each time.
type draw uint64

func (d *draw) below(n int) int {
	*d = *d*6364136223846793005 + 1442695040888963407
	return int(uint64(*d) >> 33 % uint64(n))
}
