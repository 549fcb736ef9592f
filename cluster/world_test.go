package cluster_test

import (
	"slices"
	"testing"

	"yardarm/api"
	"yardarm/cluster"
)

func four(lo uint64) api.Addr { return api.Addr{Lo: lo} }

func sixteen(hi, lo uint64) api.Addr { return api.Addr{V6: true, Hi: hi, Lo: lo} }

func addPool(a api.Addr, bits int) api.Op {
	return api.Op{Kind: api.OpPool, Prefix: api.Prefix{Addr: a, Bits: bits}}
}

func keep(a api.Addr) api.Op { return api.Op{Kind: api.OpKeep, Addr: a} }

func grant(who string, of, n int) api.Op {
	return api.Op{Kind: api.OpGrant, Who: who, Of: of, N: n}
}

func free(who string) api.Op { return api.Op{Kind: api.OpFree, Who: who} }

func tick(n int) api.Op { return api.Op{Kind: api.OpTick, N: n} }

func later(n int) api.Event { return api.Event{Kind: api.EvTime, N: n} }

func lock(who int) api.Event { return api.Event{Kind: api.EvLock, Who: who} }

func write(who int, o api.Op) api.Event { return api.Event{Kind: api.EvWrite, Who: who, Op: o} }

func send(who, n int) api.Event { return api.Event{Kind: api.EvShip, Who: who, N: n} }

func reset(who int) api.Event { return api.Event{Kind: api.EvReset, Who: who} }

// by: a log of entries of these epochs, whose ops are right.
func by(epochs ...int) []api.Entry {
	var l []api.Entry
	for i, n := range epochs {
		l = append(l, api.Entry{Number: i + 1, Epoch: n, Op: tick(i)})
	}
	return l
}

// long: a log of so many entries, all of one epoch.
func long(n, epoch int) []api.Entry {
	return by(slices.Repeat([]int{epoch}, n)...)
}

// disk: its epoch, who holds the lock, till when, its log.
func disk(epoch, holder, until int, l []api.Entry) api.Disk {
	return api.Disk{Epoch: epoch, Lock: api.Lock{Holder: holder, Until: until}, Log: l}
}

// of: a cluster: the time, a disk, and of both nodes the epoch and how much of the log they have.
func of(now int, d api.Disk, epoch1, have1, epoch2, have2 int) api.Cluster {
	return api.Cluster{Now: now, Disk: d, Nodes: []api.Node{{Epoch: epoch1, Copy: slices.Clone(d.Log[:have1])}, {Epoch: epoch2, Copy: slices.Clone(d.Log[:have2])}}}
}

// good clusters.
func good() []api.Cluster {
	return []api.Cluster{
		of(0, api.Disk{}, 0, 0, 0, 0), of(9999, api.Disk{}, 0, 0, 0, 0),
		of(0, disk(1, 1, 10, nil), 1, 0, 0, 0), of(5, disk(1, 2, 10, nil), 0, 0, 1, 0), of(11, disk(1, 1, 10, by(1)), 0, 1, 0, 0),
		of(20, disk(2, 2, 20, by(1, 1, 2)), 1, 2, 2, 3), of(21, disk(2, 2, 20, by(1, 1, 2)), 1, 3, 0, 0), of(20, disk(7, 1, 25, by(1, 3, 3)), 7, 0, 6, 3), of(20, disk(7, 1, 25, by(1, 3, 7)), 2, 1, 3, 2),
		of(9999, disk(999, 2, 10009, by(1, 998, 999)), 998, 3, 999, 3), of(9999, disk(999, 1, 9998, by(999)), 0, 0, 998, 1), of(9998, disk(998, 1, 9997, nil), 998, 0, 0, 0),
		of(30, disk(5, 2, 30, long(30, 5)), 4, 30, 5, 0), of(30, disk(5, 1, 35, long(29, 4)), 5, 28, 1, 29),
	}
}

// copied: the same cluster, in memory of its own.
func copied(c api.Cluster) api.Cluster {
	c.Disk.Log, c.Nodes = slices.Clone(c.Disk.Log), slices.Clone(c.Nodes)
	for i, n := range c.Nodes {
		c.Nodes[i].Copy = slices.Clone(n.Copy)
	}
	return c
}

// with: a copy of a cluster, changed.
func with(c api.Cluster, change func(*api.Cluster)) api.Cluster {
	c = copied(c)
	change(&c)
	return c
}

// like: are two clusters one, lists without elements being one too?
func like(a, b api.Cluster) bool {
	disks := a.Disk.Epoch == b.Disk.Epoch && a.Disk.Lock == b.Disk.Lock && slices.Equal(a.Disk.Log, b.Disk.Log)
	nodes := slices.EqualFunc(a.Nodes, b.Nodes, func(x, y api.Node) bool { return x.Epoch == y.Epoch && slices.Equal(x.Copy, y.Copy) })
	return a.Now == b.Now && disks && nodes
}

// likeState: are two states one, lists without elements being one too?
func likeState(a, b api.State) bool {
	pools := slices.EqualFunc(a.Pools, b.Pools, func(p, q api.Pool) bool {
		return p.Prefix == q.Prefix && slices.Equal(p.Kept, q.Kept)
	})
	return pools && slices.Equal(a.Leases, b.Leases) && a.Now == b.Now
}

// short form of a cluster, as some have lists that are long.
func short(c api.Cluster) api.Cluster {
	c = api.Cluster{Now: c.Now, Disk: c.Disk, Nodes: slices.Clone(c.Nodes[:min(len(c.Nodes), 3)])}
	c.Disk.Log = c.Disk.Log[:min(len(c.Disk.Log), 4)]
	for i, n := range c.Nodes {
		c.Nodes[i].Copy = n.Copy[:min(len(n.Copy), 4)]
	}
	return c
}

func checkIs(t *testing.T, c api.Cluster, want api.Errno) {
	t.Helper()
	if e := cluster.Check(c); e != want {
		t.Errorf("Check of %v: %d, and must be %d", short(c), e, want)
	}
}

// doIs: an event that is done, and what it leaves, which is right.
func doIs(t *testing.T, c api.Cluster, v api.Event, want api.Cluster) {
	t.Helper()
	if x, ok, e := cluster.Do(c, v); !like(x, want) || !ok || e != api.OK {
		t.Errorf("%v in %v: %v %v %d, and must be %v", v, c, x, ok, e, want)
	}
	checkIs(t, want, api.OK)
}

// notDone: an event that changes nothing, though nothing is wrong with it.
func notDone(t *testing.T, c api.Cluster, v api.Event) {
	t.Helper()
	if x, ok, e := cluster.Do(c, v); !like(x, c) || ok || e != api.OK {
		t.Errorf("%v in %v: %v %v %d, and must not be done", v, c, x, ok, e)
	}
}

// doFails: an error, with nothing beside it.
func doFails(t *testing.T, c api.Cluster, v api.Event, want api.Errno) {
	t.Helper()
	if x, ok, e := cluster.Do(c, v); !like(x, api.Cluster{}) || ok || e != want {
		t.Errorf("%v in %v: %v %v %d, and must be nothing and %d", v, short(c), short(x), ok, e, want)
	}
}

func runIs(t *testing.T, l []api.Event, want api.Cluster, done []bool) {
	t.Helper()
	if x, some, e := cluster.Run(l); !like(x, want) || !slices.Equal(some, done) || e != api.OK {
		t.Errorf("Run of %v: %v %v %d, and must be %v %v", l, x, some, e, want, done)
	}
}

func runFails(t *testing.T, l []api.Event, want api.Errno) {
	t.Helper()
	if x, done, e := cluster.Run(l); !like(x, api.Cluster{}) || len(done) != 0 || e != want {
		t.Errorf("Run of %d events: %v %v %d, and must be nothing and %d", len(l), short(x), done, e, want)
	}
}

func seenIs(t *testing.T, c api.Cluster, who int, want api.State) {
	t.Helper()
	if s, e := cluster.Seen(c, who); !likeState(s, want) || e != api.OK {
		t.Errorf("Seen by %d in %v: %v %d, and must be %v", who, c, s, e, want)
	}
}

func seenFails(t *testing.T, c api.Cluster, who int, want api.Errno) {
	t.Helper()
	if s, e := cluster.Seen(c, who); !likeState(s, api.State{}) || e != want {
		t.Errorf("Seen by %d in %v: %v %d, and must be nothing and %d", who, short(c), s, e, want)
	}
}

// draw numbers for what is asked at length, the same each time.
type draw uint64

func (d *draw) below(n int) int {
	*d = *d*6364136223846793005 + 1442695040888963407
	return int(uint64(*d) >> 33 % uint64(n))
}
