package log_test

import (
	"slices"
	"testing"

	"yardarm/api"
	"yardarm/log"
	"yardarm/state"
)

// I1: nothing was done: a state without anything, at time 0.
func TestReplayNothing(t *testing.T) {
	replayIs(t, nil, api.State{})
	replayIs(t, []api.Entry{}, api.State{})
}

// I1, I2: a log step by step, with what was worked out by hand: an op that has an error changes nothing, and tells no address.
func TestReplaySteps(t *testing.T) {
	ten, six := prefix(four(0x0a000008), 30), prefix(sixteen(2, 0), 126)
	first := api.Pool{Prefix: ten, Kept: []api.Addr{four(0x0a000008)}}
	one, both := []api.Pool{first}, []api.Pool{first, {Prefix: six}}
	nine, next := four(0x0a000009), four(0x0a00000a)
	var l []api.Entry
	var told []api.Addr
	for i, step := range []struct {
		op   api.Op
		want api.State
		addr api.Addr
	}{
		{grant("ann", 0, 5), api.State{}, nowhere},
		{addPool(ten.Addr, 30), api.State{Pools: []api.Pool{{Prefix: ten}}}, nowhere},
		{keep(ten.Addr), api.State{Pools: one}, nowhere},
		{keep(ten.Addr), api.State{Pools: one}, nowhere},
		{grant("ann", 0, 5), api.State{Pools: one, Leases: []api.Lease{held(nine, "ann", 5)}}, nine},
		{addPool(ten.Addr, 31), api.State{Pools: one, Leases: []api.Lease{held(nine, "ann", 5)}}, nowhere},
		{tick(3), api.State{Pools: one, Leases: []api.Lease{held(nine, "ann", 5)}, Now: 3}, nowhere},
		{grant("ann", 0, 5), api.State{Pools: one, Leases: []api.Lease{held(nine, "ann", 8)}, Now: 3}, nine},
		{grant("bob", 0, 3), api.State{Pools: one, Leases: []api.Lease{held(nine, "ann", 8), held(next, "bob", 6)}, Now: 3}, next},
		{tick(2), api.State{Pools: one, Leases: []api.Lease{held(nine, "ann", 8), held(next, "bob", 6)}, Now: 3}, nowhere},
		{free("cy"), api.State{Pools: one, Leases: []api.Lease{held(nine, "ann", 8), held(next, "bob", 6)}, Now: 3}, nowhere},
		{addPool(six.Addr, 126), api.State{Pools: both, Leases: []api.Lease{held(nine, "ann", 8), held(next, "bob", 6)}, Now: 3}, nowhere},
		{grant("bob", 1, 3), api.State{Pools: both, Leases: []api.Lease{held(nine, "ann", 8), held(next, "bob", 6)}, Now: 3}, nowhere},
		{tick(7), api.State{Pools: both, Leases: []api.Lease{held(nine, "ann", 8)}, Now: 7}, nowhere},
		{grant("bob", 1, 500), api.State{Pools: both, Leases: []api.Lease{held(nine, "ann", 8), held(six.Addr, "bob", 507)}, Now: 7}, six.Addr},
		{free("ann"), api.State{Pools: both, Leases: []api.Lease{held(six.Addr, "bob", 507)}, Now: 7}, nine},
		{tick(9999), api.State{Pools: both, Now: 9999}, nowhere},
		{tick(9998), api.State{Pools: both, Now: 9999}, nowhere},
	} {
		l, told = append(l, api.Entry{Number: i + 1, Epoch: 1 + i/3, Op: step.op}), append(told, step.addr)
		replayIs(t, l, step.want, told...)
	}
}

// I1: the epochs do not matter to what is replayed.
func TestReplayEpochs(t *testing.T) {
	l := mixed()
	s, told, e := log.Replay(l)
	if e != api.OK {
		t.Fatal(e)
	}
	for i := range l {
		l[i].Epoch = 4
	}
	replayIs(t, l, s, told...)
}

// anOp of a small world, so that ops are in each other's way.
func anOp(d *draw, now int) api.Op {
	a := []api.Addr{four(8), four(12), sixteen(7, 0)}[d.below(3)]
	bits := 30
	if a.V6 {
		bits = 126
	}
	who := string([]byte{byte('a' + d.below(9))})
	switch k := d.below(12); {
	case k < 2:
		return addPool(a, bits+d.below(3))
	case k == 2:
		a.Lo += uint64(d.below(4))
		return keep(a)
	case k < 5:
		return free(who)
	case k < 7:
		return tick(max(0, now+d.below(5)-1))
	}
	return grant(who, d.below(3), 1+d.below(6))
}

// I1, I2: long stories: a log that grows by Add replays what Do did one by one, and each shorter one is its beginning, in the log and in what was told.
func TestStories(t *testing.T) {
	var d draw
	met := map[api.Errno]int{}
	for range 200 {
		var l []api.Entry
		var s api.State
		var told []api.Addr
		epoch := 1
		for range api.MaxLog {
			o := anOp(&d, s.Now)
			x, a, e := state.Do(s, o)
			if met[e]++; e == api.OK {
				s = x
			}
			addIs(t, l, epoch, o)
			m, _ := log.Add(l, epoch, o)
			beginsIs(t, l, m, true, api.OK)
			beginsIs(t, m, l, false, api.OK)
			l, told = m, append(told, a)
			replayIs(t, l, s, told...)
			epoch += d.below(2)
		}
		longer(t, l)
		if t.Failed() {
			return
		}
	}
	for _, e := range []api.Errno{api.OK, api.ErrState, api.ErrNone, api.ErrTwice, api.ErrFull} {
		if met[e] < 20 {
			t.Errorf("stories have %d ops with %d: too few to tell", met[e], e)
		}
	}
}

// longer: I2: from what a shorter log leaves, the ops behind it lead to what the whole log leaves.
func longer(t *testing.T, l []api.Entry) {
	t.Helper()
	whole, all, _ := log.Replay(l)
	for n := range len(l) + 1 {
		s, told, e := log.Replay(l[:n])
		if e != api.OK || len(told) != n || !slices.Equal(told, all[:n]) {
			t.Fatalf("Replay of %v: %v %d; of all of it %v", l[:n], told, e, all)
		}
		for _, more := range l[n:] {
			if x, _, e := state.Do(s, more.Op); e == api.OK {
				s = x
			}
		}
		if !likeState(s, whole) {
			t.Fatalf("%v, and from place %d on %v", whole, n, s)
		}
	}
}

// I1: as many leases as may be, and then one more: that one has an error, and the rest stays.
func TestReplayFull(t *testing.T) {
	l := of(addPool(four(0), 28), addPool(four(16), 28), addPool(four(32), 28), addPool(four(48), 28))
	want := api.State{Pools: []api.Pool{{Prefix: prefix(four(0), 28)}, {Prefix: prefix(four(16), 28)}, {Prefix: prefix(four(32), 28)}}}
	told := make([]api.Addr, 4)
	for i := range 23 {
		who := string([]byte{byte('a' + i)})
		l = append(l, api.Entry{Number: i + 5, Epoch: 1, Op: grant(who, i/15, 9)})
		a := nowhere
		if i < 20 {
			a = four(uint64(i/15*16 + i%15))
			want.Leases = append(want.Leases, held(a, who, 9))
		}
		told = append(told, a)
	}
	replayIs(t, l, want, told...)
}

// behind: a log with room behind it that has something in it.
func behind(l []api.Entry) []api.Entry {
	return append(slices.Clone(l), long(5, 77)...)[:len(l)]
}

// P2, P3: what comes in is only read, the room behind it too; answers are the caller's, and the same each time.
func TestOnlyRead(t *testing.T) {
	for _, l := range good() {
		l = behind(l)
		room := slices.Clone(l[:len(l)+5])
		x, e := log.Add(l, 999, tick(5))
		was := slices.Clone(x)
		s, told, _ := log.Replay(l)
		addrs := slices.Clone(told)
		y, f := log.Add(l, 999, tick(6))
		log.Begins(l, l)
		log.Check(l)
		if !slices.Equal(l[:len(l)+5], room) {
			t.Errorf("%v was %v", l[:len(l)+5], room)
		}
		if e != f || e == api.OK && (x[len(l)].Op.N != 5 || y[len(l)].Op.N != 6) {
			t.Errorf("two answers share memory: %v %v", x, y)
		}
		clear(y[:cap(y)])
		clear(l[:cap(l)])
		if !slices.Equal(x, was) {
			t.Errorf("an answer changes with what was handed in: %v was %v", x, was)
		}
		replayIs(t, room[:len(l)], s, told...)
		clear(told[:cap(told)])
		replayIs(t, room[:len(l)], s, addrs...)
	}
}

// P2: what is replayed is new, list by list, each time.
func TestReplayApart(t *testing.T) {
	l := of(addPool(four(8), 30), addPool(four(16), 30), keep(four(8)), keep(four(17)), grant("a", 0, 5), grant("b", 1, 5))
	want := api.State{
		Pools:  []api.Pool{{Prefix: prefix(four(8), 30), Kept: []api.Addr{four(8)}}, {Prefix: prefix(four(16), 30), Kept: []api.Addr{four(17)}}},
		Leases: []api.Lease{held(four(9), "a", 5), held(four(16), "b", 5)},
	}
	told := []api.Addr{nowhere, nowhere, nowhere, nowhere, four(9), four(16)}
	s, a, _ := log.Replay(l)
	for i, p := range s.Pools {
		kept := p.Kept[:cap(p.Kept)]
		for k := range kept {
			kept[k] = four(1234)
		}
		copy(p.Kept, want.Pools[i].Kept)
		if !likeState(s, want) || !slices.Equal(a, told) {
			t.Fatalf("two lists share memory: %v %v", s, a)
		}
	}
	for i := range a {
		a[i] = four(1234)
	}
	if !likeState(s, want) {
		t.Fatalf("two lists share memory: %v", s)
	}
	clear(s.Pools[0].Kept)
	clear(s.Pools)
	clear(s.Leases)
	replayIs(t, l, want, told...)
}
