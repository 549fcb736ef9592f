package cluster_test

import (
	"math"
	"slices"
	"testing"

	"yardarm/api"
	"yardarm/cluster"
)

// script that has all kinds of events, and what each of them comes to, worked out by hand.
func script() ([]api.Event, []bool) {
	l := []struct {
		v    api.Event
		done bool
	}{
		{write(1, tick(1)), false}, {lock(1), true}, {write(1, addPool(four(8), 30)), true}, {write(2, free("a")), false}, {lock(2), false},
		{later(10), true}, {lock(2), false}, {later(1), true}, {send(2, 1), true}, {lock(2), true},
		{write(1, grant("a", 0, 50)), false}, {write(2, grant("a", 0, 50)), true}, {send(1, 30), true}, {lock(1), false}, {reset(2), true},
		{write(2, tick(3)), false}, {lock(2), true}, {write(2, tick(3)), true}, {write(2, api.Op{}), false}, {later(0), true},
	}
	var events []api.Event
	var done []bool
	for _, x := range l {
		events, done = append(events, x.v), append(done, x.done)
	}
	return events, done
}

// L3: the script as a whole: what it leaves, and which of its events were done.
func TestRun(t *testing.T) {
	l, done := script()
	log := []api.Entry{{Number: 1, Epoch: 1, Op: addPool(four(8), 30)}, {Number: 2, Epoch: 2, Op: grant("a", 0, 50)}, {Number: 3, Epoch: 2, Op: tick(3)}}
	runIs(t, l, of(11, disk(2, 2, 21, log), 1, 2, 2, 0), done)
}

// L3: one by one, from New on: each shorter script leaves what Do left.
func TestRunSteps(t *testing.T) {
	l, done := script()
	runIs(t, nil, cluster.New(), nil)
	runIs(t, []api.Event{}, cluster.New(), nil)
	c := cluster.New()
	for i, v := range l {
		x, ok, e := cluster.Do(c, v)
		if ok != done[i] || e != api.OK {
			t.Errorf("%v in %v: %v %d, and must be %v", v, c, ok, e, done[i])
		}
		runIs(t, l[:i+1], x, done[:i+1])
		c = x
	}
}

// L3: as many events as there may be, and one more, whatever they are.
func TestRunMany(t *testing.T) {
	c := cluster.New()
	c.Now = 40
	runIs(t, slices.Repeat([]api.Event{later(1)}, 40), c, slices.Repeat([]bool{true}, 40))
	for _, v := range []api.Event{later(1), later(-1), lock(1), {}, {Kind: 2, Who: 3, N: 1}} {
		for _, n := range []int{41, 42, 1 << 16} {
			runFails(t, slices.Repeat([]api.Event{v}, n), api.ErrMany)
		}
	}
}

// L3: the first error tells, wherever it stands, with nothing beside it; an event that is not done is none.
func TestRunWrong(t *testing.T) {
	faults := []struct {
		v   api.Event
		why api.Errno
	}{{api.Event{Kind: 9}, api.ErrKind}, {api.Event{Kind: 5, Who: 1, N: 1}, api.ErrForm}, {lock(3), api.ErrRange}, {later(math.MaxInt), api.ErrRange}, {later(9999), api.ErrRange}}
	l, _ := script()
	for i := range len(l) + 1 {
		for _, x := range faults {
			if x.v == later(9999) && i < 6 {
				continue
			}
			some := slices.Insert(slices.Clone(l), i, x.v)
			runFails(t, some, x.why)
			for _, y := range faults {
				runFails(t, append(slices.Clone(some), y.v), x.why)
			}
		}
	}
}

// P2, P3: events that come in are only read, the room behind them too, and the answers are the caller's, the same each time.
func TestRunAgain(t *testing.T) {
	l, done := script()
	l = append(l, reset(1))[:len(l)]
	c, some, _ := cluster.Run(l)
	was := copied(c)
	spoil(c)
	clear(some[:cap(some)])
	runIs(t, l, was, done)
	if events, _ := script(); !slices.Equal(l, events) || l[:len(l)+1][len(l)] != reset(1) {
		t.Errorf("%v was %v", l, events)
	}
}

// L3: what each node has seen of a log: what its copy replays, whatever the disk has by now, and whatever the node believes.
func TestSeen(t *testing.T) {
	pool := api.Prefix{Addr: four(8), Bits: 30}
	ops := []api.Op{addPool(four(8), 30), grant("a", 0, 5), grant("a", 1, 5), keep(four(8)), tick(3), grant("b", 0, 5), tick(6)}
	one := []api.Pool{{Prefix: pool}}
	kept := []api.Pool{{Prefix: pool, Kept: []api.Addr{four(8)}}}
	a, b := api.Lease{Addr: four(8), Who: "a", Until: 5}, api.Lease{Addr: four(9), Who: "b", Until: 8}
	states := []api.State{{}, {Pools: one}, {Pools: one, Leases: []api.Lease{a}}, {Pools: one, Leases: []api.Lease{a}}, {Pools: kept, Leases: []api.Lease{a}}, {Pools: kept, Leases: []api.Lease{a}, Now: 3}, {Pools: kept, Leases: []api.Lease{a, b}, Now: 3}, {Pools: kept, Leases: []api.Lease{b}, Now: 6}}
	var l []api.Entry
	for i, o := range ops {
		l = append(l, api.Entry{Number: i + 1, Epoch: 1 + i/3, Op: o})
	}
	for n, x := range states {
		for m, y := range states {
			for _, epochs := range [][2]int{{0, 0}, {3, 2}, {1, 0}} {
				c := of(9, disk(3, 1, 9, l), epochs[0], n, epochs[1], m)
				seenIs(t, c, 1, x)
				seenIs(t, c, 2, y)
			}
		}
	}
}

// L3: nodes are 1 and 2.
func TestSeenRange(t *testing.T) {
	for _, c := range good() {
		for _, who := range []int{0, 3, -1, -2, 4, math.MinInt, math.MaxInt} {
			seenFails(t, c, who, api.ErrRange)
		}
	}
}

// P2: what was seen is the caller's.
func TestSeenApart(t *testing.T) {
	l := []api.Entry{{Number: 1, Epoch: 1, Op: addPool(four(8), 30)}, {Number: 2, Epoch: 1, Op: keep(four(8))}, {Number: 3, Epoch: 1, Op: grant("a", 0, 5)}}
	c := of(0, disk(1, 1, 9, l), 1, 3, 0, 3)
	want := api.State{Pools: []api.Pool{{Prefix: api.Prefix{Addr: four(8), Bits: 30}, Kept: []api.Addr{four(8)}}}, Leases: []api.Lease{{Addr: four(9), Who: "a", Until: 5}}}
	s, _ := cluster.Seen(c, 1)
	clear(s.Pools[0].Kept)
	clear(s.Pools)
	clear(s.Leases)
	seenIs(t, c, 1, want)
	seenIs(t, c, 2, want)
}
