package cluster_test

import (
	"math"
	"slices"
	"testing"

	"yardarm/api"
	"yardarm/cluster"
)

// L2: the document's example: node 1 has the lock till 10; at 11 node 2 gets it, by a greater epoch; what node 1 writes then, not knowing, is refused.
func TestExample(t *testing.T) {
	c := cluster.New()
	then := of(0, disk(1, 1, 10, nil), 1, 0, 0, 0)
	doIs(t, c, lock(1), then)
	c, then = then, of(10, then.Disk, 1, 0, 0, 0)
	doIs(t, c, later(10), then)
	notDone(t, then, lock(2))
	c, then = then, of(11, then.Disk, 1, 0, 0, 0)
	doIs(t, c, later(1), then)
	c, then = then, of(11, disk(2, 2, 21, nil), 1, 0, 2, 0)
	doIs(t, c, lock(2), then)
	notDone(t, then, write(1, tick(5)))
	notDone(t, then, lock(1))
	c, then = then, of(11, disk(2, 2, 21, []api.Entry{{Number: 1, Epoch: 2, Op: tick(5)}}), 1, 0, 2, 0)
	doIs(t, c, write(2, tick(5)), then)
	c, then = then, of(11, then.Disk, 1, 1, 2, 0)
	doIs(t, c, send(1, 30), then)
}

// L2: the time goes on, by nothing too, till MaxTime and not behind it; nothing else changes.
func TestTime(t *testing.T) {
	for _, c := range good() {
		left := 9999 - c.Now
		for _, n := range []int{0, min(1, left), left / 2, left} {
			doIs(t, c, later(n), with(c, func(x *api.Cluster) { x.Now += n }))
		}
		for _, n := range []int{-1, left + 1, left + 2, 10000, -c.Now - 1, math.MinInt, math.MaxInt, math.MaxInt - c.Now, math.MaxInt - c.Now + 1} {
			doFails(t, c, later(n), api.ErrRange)
		}
	}
}

// L2: who gets the lock, and who does not: the disk is what Acquire answers, and its epoch the node's.
func TestLock(t *testing.T) {
	for _, one := range []struct {
		c    api.Cluster
		who  int
		want api.Cluster
	}{
		{of(0, api.Disk{}, 0, 0, 0, 0), 1, of(0, disk(1, 1, 10, nil), 1, 0, 0, 0)},
		{of(9999, api.Disk{}, 0, 0, 0, 0), 2, of(9999, disk(1, 2, 10009, nil), 0, 0, 1, 0)},
		{of(20, disk(2, 2, 20, by(1, 2)), 1, 1, 2, 2), 2, of(20, disk(2, 2, 30, by(1, 2)), 1, 1, 2, 2)},
		{of(21, disk(2, 2, 20, by(1, 2)), 1, 1, 2, 2), 2, of(21, disk(3, 2, 31, by(1, 2)), 1, 1, 3, 2)},
		{of(21, disk(2, 2, 20, by(1, 2)), 1, 1, 2, 2), 1, of(21, disk(3, 1, 31, by(1, 2)), 3, 1, 2, 2)},
		{of(5, disk(2, 1, 9, by(1)), 0, 0, 1, 1), 1, of(5, disk(2, 1, 15, by(1)), 2, 0, 1, 1)},
		{of(9, disk(7, 2, 9, by(1)), 3, 0, 2, 1), 2, of(9, disk(7, 2, 19, by(1)), 3, 0, 7, 1)},
		{of(10, disk(998, 2, 9, nil), 0, 0, 0, 0), 1, of(10, disk(999, 1, 20, nil), 999, 0, 0, 0)},
		{of(9, disk(999, 2, 9, nil), 0, 0, 0, 0), 2, of(9, disk(999, 2, 19, nil), 0, 0, 999, 0)},
	} {
		doIs(t, one.c, lock(one.who), one.want)
	}
	notDone(t, of(20, disk(2, 2, 20, by(1, 2)), 1, 1, 2, 2), lock(1))
	notDone(t, of(0, disk(1, 1, 0, nil), 0, 0, 0, 0), lock(2))
	notDone(t, of(10, disk(999, 2, 9, nil), 0, 0, 999, 0), lock(1))
	notDone(t, of(10, disk(999, 2, 9, nil), 0, 0, 999, 0), lock(2))
}

// rightOps are of their form; that one does nothing when it is replayed does not matter.
var rightOps = []api.Op{addPool(four(8), 30), keep(sixteen(1, 2)), grant("abcdefgh", 2, 500), free("a"), tick(0), tick(9999)}

// wrongOps are not.
var wrongOps = []api.Op{{}, {Kind: 6}, {Kind: -1}, tick(-1), tick(10000), grant("", 0, 5), grant("a", 3, 5), free("A"), addPool(four(1), 31), addPool(four(0), 27), {Kind: api.OpTick, Who: "a"}}

// L2: who has the disk's epoch writes, whatever the time; who has an elder one, or none, does not, and nobody what is no op, or more than a log may have.
func TestWrite(t *testing.T) {
	for _, c := range good() {
		for who := 1; who <= 2; who++ {
			can := c.Nodes[who-1].Epoch != 0 && c.Nodes[who-1].Epoch == c.Disk.Epoch && len(c.Disk.Log) < 30
			for _, o := range rightOps {
				if !can {
					notDone(t, c, write(who, o))
					continue
				}
				doIs(t, c, write(who, o), with(c, func(x *api.Cluster) {
					x.Disk.Log = append(x.Disk.Log, api.Entry{Number: len(c.Disk.Log) + 1, Epoch: c.Disk.Epoch, Op: o})
				}))
			}
			for _, o := range wrongOps {
				notDone(t, c, write(who, o))
			}
		}
	}
}

// L2: a node is sent what it lacks, at most N, which may be nothing; whatever it believes.
func TestShip(t *testing.T) {
	for _, c := range good() {
		l := c.Disk.Log
		for who := 1; who <= 2; who++ {
			for have := range len(l) + 1 {
				c.Nodes[who-1].Copy = slices.Clone(l[:have])
				for _, n := range []int{0, 1, 2, 3, 29, 30} {
					doIs(t, c, send(who, n), with(c, func(x *api.Cluster) { x.Nodes[who-1].Copy = slices.Clone(l[:min(have+n, len(l))]) }))
				}
			}
		}
	}
}

// L2: a node starts anew; the disk, and the other node, stay as they are, and so the lock.
func TestReset(t *testing.T) {
	for _, c := range good() {
		for who := 1; who <= 2; who++ {
			doIs(t, c, reset(who), with(c, func(x *api.Cluster) { x.Nodes[who-1] = api.Node{} }))
		}
	}
	c := of(5, disk(2, 1, 9, by(1)), 0, 0, 1, 1)
	notDone(t, c, write(1, tick(5)))
	doIs(t, c, lock(1), of(5, disk(2, 1, 15, by(1)), 2, 0, 1, 1))
}

// whyEvent: what the document says of an event at a time.
func whyEvent(now int, v api.Event) api.Errno {
	timely, ships := v.Kind == 1, v.Kind == 4
	switch {
	case v.Kind < 1 || v.Kind > 5:
		return api.ErrKind
	case timely && v.Who != 0, !timely && !ships && v.N != 0, v.Kind != 3 && v.Op != api.Op{}:
		return api.ErrForm
	case timely && (v.N < 0 || v.N > 9999-now), !timely && v.Who != 1 && v.Who != 2, ships && (v.N < 0 || v.N > 30):
		return api.ErrRange
	}
	return api.OK
}

// L2: errors of an event in their order, whatever stands in it; with none it is done or not, and what it leaves is right.
func TestDoWrong(t *testing.T) {
	ops := append([]api.Op{{Prefix: api.Prefix{Bits: 1}}, {Addr: sixteen(0, 0)}, {Who: "a"}, {Of: -1}, {N: 1}}, append(rightOps, wrongOps...)...)
	met := map[api.Errno]int{}
	for _, c := range good() {
		for _, kind := range []int{math.MinInt, -1, 0, 1, 2, 3, 4, 5, 6, math.MaxInt} {
			for _, who := range []int{math.MinInt, -1, 0, 1, 2, 3, math.MaxInt} {
				for _, n := range []int{math.MinInt, -1, 0, 1, 30, 31, 9999 - c.Now, 10000 - c.Now, math.MaxInt} {
					for _, o := range ops {
						v := api.Event{Kind: kind, Who: who, N: n, Op: o}
						want := whyEvent(c.Now, v)
						if met[want]++; want != api.OK {
							doFails(t, c, v, want)
							continue
						}
						x, _, e := cluster.Do(c, v)
						if e != api.OK {
							t.Errorf("%v in %v: %d, and must be %d", v, c, e, api.OK)
						}
						checkIs(t, x, api.OK)
					}
				}
			}
		}
	}
	for _, e := range []api.Errno{api.OK, api.ErrKind, api.ErrForm, api.ErrRange} {
		if met[e] < 100 {
			t.Errorf("%d events with %d: too few to tell", met[e], e)
		}
	}
}

// L2: a field that its kind does not name, whichever it is of an op, told ahead of numbers that may not stand there.
func TestDoForm(t *testing.T) {
	for _, c := range good() {
		for _, o := range []api.Op{{Kind: 1}, {Prefix: api.Prefix{Addr: four(1)}}, {Prefix: api.Prefix{Bits: 1}}, {Addr: four(1)}, {Addr: sixteen(0, 0)}, {Addr: sixteen(1, 0)}, {Who: "a"}, {Of: 1}, {N: 1}, {Kind: -1}} {
			for _, who := range []int{0, 1, 2, 3} {
				for _, v := range []api.Event{lock(who), send(who, 5), send(who, 31), reset(who)} {
					v.Op = o
					doFails(t, c, v, api.ErrForm)
				}
			}
			for _, v := range []api.Event{later(0), later(-1), later(10000)} {
				v.Op = o
				doFails(t, c, v, api.ErrForm)
			}
		}
		for _, n := range []int{-1, 1, math.MinInt, math.MaxInt} {
			doFails(t, c, api.Event{Kind: api.EvTime, Who: n}, api.ErrForm)
			doFails(t, c, api.Event{Kind: api.EvLock, Who: 1, N: n}, api.ErrForm)
			doFails(t, c, api.Event{Kind: api.EvWrite, Who: 1, N: n, Op: tick(5)}, api.ErrForm)
			doFails(t, c, api.Event{Kind: api.EvReset, Who: 3, N: n}, api.ErrForm)
		}
	}
}

// anEvent of each kind, for each node: done or not.
func anEvent() []api.Event {
	return []api.Event{later(0), lock(1), lock(2), write(1, tick(5)), write(2, tick(6)), write(1, api.Op{}), send(1, 0), send(1, 1), send(2, 30), reset(1), reset(2)}
}

// lists of a cluster, that of nodes told by their copies.
func lists(c api.Cluster) [][]api.Entry {
	return [][]api.Entry{c.Disk.Log, c.Nodes[0].Copy, c.Nodes[1].Copy}
}

// roomy: the same cluster, its lists with room behind them that has something in it.
func roomy(c api.Cluster) api.Cluster {
	more := func(l []api.Entry) []api.Entry { return append(slices.Clone(l), long(5, 77)...)[:len(l)] }
	nodes := []api.Node{{}, {}, {Epoch: 77}}[:2]
	for i, n := range c.Nodes {
		nodes[i] = api.Node{Epoch: n.Epoch, Copy: more(n.Copy)}
	}
	return api.Cluster{Now: c.Now, Disk: disk(c.Disk.Epoch, c.Disk.Lock.Holder, c.Disk.Lock.Until, more(c.Disk.Log)), Nodes: nodes}
}

// spoil what a cluster has, and the room behind it.
func spoil(c api.Cluster) {
	for _, l := range lists(c) {
		l = l[:cap(l)]
		for i := range l {
			l[i] = api.Entry{Number: 1234}
		}
	}
	nodes := c.Nodes[:cap(c.Nodes)]
	for i := range nodes {
		nodes[i] = api.Node{Epoch: 1234}
	}
}

// P2, P3: what comes in is only read, the room behind it too; answers are the caller's, done or not, and the same each time.
func TestOnlyRead(t *testing.T) {
	for _, c := range good() {
		for _, v := range anEvent() {
			in := roomy(c)
			x, ok, e := cluster.Do(in, v)
			cluster.Seen(in, 1)
			cluster.Check(in)
			for i, l := range lists(in) {
				if n := len(lists(c)[i]); !slices.Equal(l[:n+5], append(slices.Clone(lists(c)[i]), long(5, 77)...)) {
					t.Errorf("%v: list %d is %v, and was %v", v, i, l[:n+5], lists(c)[i])
				}
			}
			if !like(in, c) || in.Nodes[:3][2].Epoch != 77 {
				t.Errorf("%v: %v was %v", v, in, c)
			}
			was := copied(x)
			spoil(in)
			if !like(x, was) {
				t.Errorf("%v: an answer changes with what was handed in: %v was %v", v, x, was)
			}
			spoil(x)
			y, again, f := cluster.Do(c, v)
			if !like(y, was) || again != ok || e != f {
				t.Errorf("%v in %v: %v %v %d, and once it was %v %v %d", v, c, y, again, f, was, ok, e)
			}
		}
	}
}

// P2: no two lists of an answer share memory, nor does one reach what is behind another one.
func TestApart(t *testing.T) {
	for _, c := range good() {
		for _, v := range anEvent() {
			for i := range 3 {
				x, _, _ := cluster.Do(c, v)
				was := copied(x)
				l := lists(x)[i]
				l = l[:cap(l)]
				for k := range l {
					l[k] = api.Entry{Number: 1234}
				}
				for k := range 3 {
					if k != i && !slices.Equal(lists(x)[k], lists(was)[k]) {
						t.Errorf("%v in %v: lists %d and %d share memory", v, c, i, k)
					}
				}
			}
		}
	}
}
