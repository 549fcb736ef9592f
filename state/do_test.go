package state_test

import (
	"math"
	"slices"
	"testing"

	"yardarm/api"
	"yardarm/state"
)

// G3: the document's example: a pool of four addresses, the first one kept back.
func TestExample(t *testing.T) {
	p := prefix(four(0x0a000008), 30)
	var s api.State
	for _, step := range []struct {
		op   api.Op
		want api.State
		addr api.Addr
	}{
		{addPool(p.Addr, 30), api.State{Pools: []api.Pool{{Prefix: p}}}, nowhere},
		{keep(p.Addr), api.State{Pools: []api.Pool{pool(p.Addr, 30, p.Addr)}}, nowhere},
		{grant("a", 0, 5), api.State{Pools: []api.Pool{pool(p.Addr, 30, p.Addr)}, Leases: []api.Lease{held(four(0x0a000009), "a", 5)}}, four(0x0a000009)},
		{tick(3), api.State{Pools: []api.Pool{pool(p.Addr, 30, p.Addr)}, Leases: []api.Lease{held(four(0x0a000009), "a", 5)}, Now: 3}, nowhere},
		{grant("a", 0, 5), api.State{Pools: []api.Pool{pool(p.Addr, 30, p.Addr)}, Leases: []api.Lease{held(four(0x0a000009), "a", 8)}, Now: 3}, four(0x0a000009)},
		{free("a"), api.State{Pools: []api.Pool{pool(p.Addr, 30, p.Addr)}, Now: 3}, four(0x0a000009)},
	} {
		doIs(t, s, step.op, step.want, step.addr)
		s = step.want
	}
}

// G3: a pool goes where it belongs, be it ahead of all, between, or behind all; those that are there, and leases, stay as they are.
func TestPool(t *testing.T) {
	low, mid, high := pool(four(4), 30), pool(four(8), 29, four(9)), pool(sixteen(0, 4), 126, sixteen(0, 7))
	l := []api.Lease{held(four(10), "a", 9)}
	doIs(t, api.State{Now: 7}, addPool(four(8), 29), api.State{Pools: []api.Pool{pool(four(8), 29)}, Now: 7}, nowhere)
	doIs(t, api.State{Pools: []api.Pool{mid, high}, Leases: l, Now: 7}, addPool(four(4), 30), api.State{Pools: []api.Pool{low, mid, high}, Leases: l, Now: 7}, nowhere)
	doIs(t, api.State{Pools: []api.Pool{low, mid}, Leases: l}, addPool(sixteen(0, 4), 126), api.State{Pools: []api.Pool{low, mid, pool(sixteen(0, 4), 126)}, Leases: l}, nowhere)
	doIs(t, api.State{Pools: []api.Pool{low, high}}, addPool(four(8), 29), api.State{Pools: []api.Pool{low, pool(four(8), 29), high}}, nowhere)
	doIs(t, api.State{Pools: []api.Pool{mid}, Leases: l}, addPool(four(16), 32), api.State{Pools: []api.Pool{mid, pool(four(16), 32)}, Leases: l}, nowhere)
	doIs(t, api.State{Pools: []api.Pool{mid}}, addPool(four(7), 32), api.State{Pools: []api.Pool{pool(four(7), 32), mid}}, nowhere)
}

// G3: a pool that has an address in common with one that is there, and only then one too many.
func TestPoolWrong(t *testing.T) {
	s := api.State{Pools: []api.Pool{pool(four(4), 31), pool(four(8), 30), pool(sixteen(0, 16), 124)}}
	for _, n := range []int{2, 3} {
		some := api.State{Pools: s.Pools[3-n:]}
		for _, o := range []api.Op{addPool(four(8), 30), addPool(four(8), 31), addPool(four(11), 32), addPool(four(8), 29), addPool(four(0), 28), addPool(sixteen(0, 16), 124), addPool(sixteen(0, 31), 128)} {
			doFails(t, some, o, api.ErrTwice)
		}
	}
	for _, o := range []api.Op{addPool(four(6), 31), addPool(four(12), 30), addPool(four(0), 32), addPool(four(16), 28), addPool(sixteen(0, 8), 125), addPool(sixteen(0, 32), 124)} {
		doFails(t, s, o, api.ErrMany)
	}
	doFails(t, api.State{Pools: s.Pools[:1]}, addPool(four(4), 30), api.ErrTwice)
}

// G3: an address is kept back in the pool that has it, where it belongs; that it is leased does not matter, and who has it has it still.
func TestKeep(t *testing.T) {
	for _, a := range []uint64{8, 10, 11} {
		s := api.State{Pools: []api.Pool{pool(four(4), 31), pool(four(8), 30, four(9)), pool(four(12), 30)}, Leases: []api.Lease{held(four(10), "a", 9)}, Now: 7}
		want := deep(s)
		want.Pools[1].Kept = []api.Addr{four(min(a, 9)), four(max(a, 9))}
		doIs(t, s, keep(four(a)), want, nowhere)
		doFails(t, want, keep(four(a)), api.ErrTwice)
		doIs(t, want, grant("a", 1, 5), api.State{Pools: want.Pools, Leases: []api.Lease{held(four(10), "a", 12)}, Now: 7}, four(10))
	}
	six := api.State{Pools: []api.Pool{pool(four(1), 32), pool(sixteen(0, 0), 126)}}
	doIs(t, six, keep(sixteen(0, 1)), api.State{Pools: []api.Pool{pool(four(1), 32), pool(sixteen(0, 0), 126, sixteen(0, 1))}}, nowhere)
	doIs(t, six, keep(four(1)), api.State{Pools: []api.Pool{pool(four(1), 32, four(1)), pool(sixteen(0, 0), 126)}}, nowhere)
}

// G3: as many as may be kept back, in each pool; one that is kept back already is told ahead of there being too many.
func TestKeepMany(t *testing.T) {
	s := api.State{Pools: wide()}
	for _, first := range []uint64{0, 16} {
		for i := range uint64(api.MaxKept) {
			want := deep(s)
			p := &want.Pools[first/16]
			p.Kept = slices.Insert(p.Kept, 0, four(first+10-i))
			doIs(t, s, keep(four(first+10-i)), want, nowhere)
			s = want
		}
		for i := range uint64(16) {
			if i >= 5 && i <= 10 {
				doFails(t, s, keep(four(first+i)), api.ErrTwice)
			} else {
				doFails(t, s, keep(four(first+i)), api.ErrMany)
			}
		}
	}
	for _, a := range []api.Addr{four(32), four(math.MaxUint32 - 16), sixteen(0, 0), sixteen(0, 16)} {
		doFails(t, s, keep(a), api.ErrNone)
	}
	doFails(t, api.State{}, keep(four(0)), api.ErrNone)
}

// G3: the first address of the pool that is asked for, not of another one; leases of all pools stay, rising.
func TestGrant(t *testing.T) {
	l := []api.Lease{held(four(5), "a", 9), held(four(9), "b", 8), held(sixteen(2, 0), "c", 20)}
	s := api.State{Pools: three(), Leases: l, Now: 7}
	then := func(l ...api.Lease) api.State { return api.State{Pools: three(), Leases: l, Now: 7} }
	doIs(t, s, grant("z", 0, 5), then(held(four(4), "z", 12), l[0], l[1], l[2]), four(4))
	doIs(t, s, grant("z", 1, 500), then(l[0], l[1], held(four(11), "z", 507), l[2]), four(11))
	doIs(t, s, grant("z", 2, 1), then(l[0], l[1], l[2], held(sixteen(2, 1), "z", 8)), sixteen(2, 1))
	doIs(t, s, grant("a", 0, 5), then(held(four(5), "a", 12), l[1], l[2]), four(5))
	doIs(t, s, grant("b", 1, 5), then(l[0], held(four(9), "b", 12), l[2]), four(9))
	doIs(t, s, grant("c", 2, 5), then(l[0], l[1], held(sixteen(2, 0), "c", 12)), sixteen(2, 0))
	doIs(t, api.State{Pools: three(), Now: 9999}, grant("z", 1, 500), api.State{Pools: three(), Leases: []api.Lease{held(four(9), "z", 10499)}, Now: 9999}, four(9))
}

// G3: errors of a grant in their order: no such pool, an address of another pool, none left.
func TestGrantWrong(t *testing.T) {
	l := []api.Lease{held(four(4), "a", 9), held(four(5), "b", 9), held(four(9), "c", 9)}
	s := api.State{Pools: three()[:2], Leases: l, Now: 7}
	for _, who := range []string{"a", "c", "z"} {
		doFails(t, s, grant(who, 2, 5), api.ErrNone)
		doFails(t, api.State{Now: 7}, grant(who, 0, 5), api.ErrNone)
	}
	doFails(t, s, grant("a", 1, 5), api.ErrTwice)
	doFails(t, s, grant("b", 1, 5), api.ErrTwice)
	doFails(t, s, grant("c", 0, 5), api.ErrTwice)
	doFails(t, s, grant("z", 0, 5), api.ErrFull)
	doFails(t, api.State{Pools: []api.Pool{pool(four(8), 31, four(8), four(9))}}, grant("z", 0, 5), api.ErrFull)
	doIs(t, s, grant("z", 1, 5), api.State{Pools: s.Pools, Leases: append(slices.Clone(l), held(four(11), "z", 12)), Now: 7}, four(11))
}

// G3: as many leases as may be: the last of all errors, and none for who has one.
func TestGrantMany(t *testing.T) {
	less := api.State{Pools: wide(), Leases: crowd(19), Now: 50}
	doIs(t, less, grant("z", 1, 5), api.State{Pools: wide(), Leases: append(crowd(19), held(four(19), "z", 55)), Now: 50}, four(19))
	s := api.State{Pools: wide(), Leases: crowd(20), Now: 50}
	doFails(t, s, grant("z", 0, 5), api.ErrFull)
	doFails(t, s, grant("z", 1, 5), api.ErrMany)
	doFails(t, s, grant("z", 2, 5), api.ErrMany)
	doFails(t, s, grant("na", 2, 5), api.ErrTwice)
	want := deep(s)
	want.Leases[18].Until = 55
	doIs(t, s, grant(s.Leases[18].Who, 1, 5), want, four(18))
	doFails(t, api.State{Pools: wide()[:2], Leases: crowd(20), Now: 50}, grant("z", 2, 5), api.ErrNone)
}

// G3: who's lease goes, be it the first, the last or one between, and no other one.
func TestFree(t *testing.T) {
	l := []api.Lease{held(four(5), "a", 9), held(four(8), "b", 8), held(sixteen(2, 0), "c", 20)}
	s := api.State{Pools: three(), Leases: l, Now: 7}
	for i, one := range l {
		want := deep(s)
		want.Leases = slices.Delete(want.Leases, i, i+1)
		doIs(t, s, free(one.Who), want, one.Addr)
		doFails(t, want, free(one.Who), api.ErrNone)
	}
	doFails(t, s, free("z"), api.ErrNone)
	doFails(t, api.State{}, free("a"), api.ErrNone)
}

// G3: leases whose Until is before the time go, those till it stay; the time may be the same, but not an earlier one.
func TestTick(t *testing.T) {
	l := []api.Lease{held(four(5), "a", 9), held(four(8), "b", 8), held(sixteen(2, 0), "c", 10499)}
	s := api.State{Pools: three(), Leases: l, Now: 7}
	for now, left := range map[int][]api.Lease{7: l, 8: l, 9: {l[0], l[2]}, 10: {l[2]}, 9999: {l[2]}} {
		doIs(t, s, tick(now), api.State{Pools: three(), Leases: left, Now: now}, nowhere)
	}
	for _, now := range []int{0, 1, 6} {
		doFails(t, s, tick(now), api.ErrState)
	}
	doIs(t, api.State{}, tick(0), api.State{}, nowhere)
	doFails(t, api.State{Now: 9999}, tick(9998), api.ErrState)
}

// G3, P1: Form comes behind Check, and ahead of whatever else may be wrong.
func TestDoForm(t *testing.T) {
	wrong := map[api.Errno][]api.Op{
		api.ErrKind:  {{}, {Kind: 6}, {Kind: -1, N: 4}},
		api.ErrForm:  {{Kind: api.OpTick, N: 9, Who: "a"}, {Kind: api.OpPool, Prefix: prefix(four(8), 30), N: 1}, grant("", 9, 9), grant("F", 0, 5), free(""), {Kind: api.OpFree, Who: "a", N: 1}},
		api.ErrRange: {tick(-1), tick(10000), grant("a", 3, 5), grant("a", 0, 501), grant("a", 0, 0), keep(noAddr), addPool(four(0), 40)},
		api.ErrState: {addPool(four(1), 31)},
		api.ErrMany:  {addPool(four(0), 27)},
	}
	for want, l := range wrong {
		for _, o := range l {
			for _, s := range good() {
				doFails(t, s, o, want)
			}
			doFails(t, api.State{Leases: []api.Lease{held(four(8), "a", 7)}}, o, api.ErrNone)
		}
	}
}

// P2, P3: what comes in is only read, the room behind the lists too; answers are the caller's, each list by itself, and the same each time.
func TestOnlyRead(t *testing.T) {
	start := func() api.State {
		behind := []api.Addr{four(8), four(10), four(77), four(78)}
		pools := []api.Pool{pool(four(8), 30), pool(four(16), 30, four(16)), pool(four(99), 32, four(99))}
		pools[0].Kept = behind[:2]
		leases := []api.Lease{held(four(9), "a", 8), held(four(17), "b", 9), held(four(77), "x", 1), held(four(78), "y", 1)}
		return api.State{Pools: pools[:2], Leases: leases[:2], Now: 7}
	}
	whole := func(s api.State) api.State {
		s.Pools, s.Leases = s.Pools[:3], s.Leases[:4]
		return deep(s)
	}
	for _, o := range []api.Op{addPool(four(0), 32), addPool(four(12), 30), addPool(four(32), 30), keep(four(9)), keep(four(11)), keep(four(17)), grant("c", 0, 5), grant("c", 1, 5), grant("a", 0, 5), free("a"), free("b"), tick(7), tick(9), tick(20)} {
		s := start()
		was, room := whole(s), slices.Clone(s.Pools[0].Kept[:4])
		x, a, e := state.Do(s, o)
		if e != api.OK {
			t.Fatalf("%v: %d", o, e)
		}
		first := deep(x)
		y, b, _ := state.Do(s, o)
		spoil(y)
		if !like(whole(s), was) || !slices.Equal(s.Pools[0].Kept[:4], room) {
			t.Errorf("%v changes what it was handed: %v was %v", o, whole(s), was)
		}
		if z, c, _ := state.Do(s, o); !like(z, first) || !like(x, first) || a != b || a != c {
			t.Errorf("%v: %v, then %v", o, first, z)
		}
		spoil(s)
		if !like(x, first) {
			t.Errorf("%v: its answer changes with what it was handed: %v was %v", o, x, first)
		}
		apart(t, x)
	}
}

// spoil all that a state has, the room behind its lists too.
func spoil(s api.State) {
	for _, p := range s.Pools {
		clear(p.Kept[:cap(p.Kept)])
	}
	clear(s.Pools[:cap(s.Pools)])
	clear(s.Leases[:cap(s.Leases)])
}

// apart: the lists of what is kept back, spoilt one by one: the others stay.
func apart(t *testing.T, s api.State) {
	t.Helper()
	for i, p := range s.Pools {
		was := deep(s)
		kept := p.Kept[:cap(p.Kept)]
		for k := range kept {
			kept[k] = four(1234567)
		}
		copy(p.Kept, was.Pools[i].Kept)
		if !like(s, was) {
			t.Errorf("two lists share memory: %v was %v", s, was)
		}
	}
}
