package cluster_test

import (
	"math"
	"testing"

	"yardarm/api"
	"yardarm/cluster"
)

// L1: a new cluster: time 0, a disk without anything, two nodes without anything.
func TestNew(t *testing.T) {
	c := cluster.New()
	if !like(c, api.Cluster{Nodes: make([]api.Node, 2)}) {
		t.Errorf("New: %v", c)
	}
	checkIs(t, c, api.OK)
	c.Nodes[0].Epoch, c.Nodes[1].Copy = 5, by(1)
	if x := cluster.New(); !like(x, api.Cluster{Nodes: make([]api.Node, 2)}) {
		t.Errorf("New: %v, as another one was changed", x)
	}
}

// L1: clusters that are right.
func TestCheck(t *testing.T) {
	for _, c := range good() {
		checkIs(t, c, api.OK)
	}
}

// faulty: disks, and copies beside them, by what is to be said of them.
type faulty[T any] struct {
	it  T
	why api.Errno
}

// whyNodes: what the document says of two nodes beside a disk that is right: node by node, then of both of them.
func whyNodes(d api.Disk, epochs [2]int, copies [2]faulty[[]api.Entry]) api.Errno {
	for i, n := range epochs {
		if n < 0 || n > d.Epoch {
			return api.ErrRange
		}
		if copies[i].why != api.OK {
			return copies[i].why
		}
	}
	if epochs[0] != 0 && epochs[0] == epochs[1] {
		return api.ErrState
	}
	if d.Epoch != 0 && epochs[2-d.Lock.Holder] == d.Epoch {
		return api.ErrState
	}
	return api.OK
}

// L1: each number at its edges, all of them in every company, and of copies each that there may be: what is named first tells.
func TestCheckAll(t *testing.T) {
	l := by(1, 1, 2)
	other := by(1, 2, 2)
	disks := []faulty[api.Disk]{
		{api.Disk{}, api.OK}, {disk(1, 1, 10, nil), api.OK}, {disk(2, 1, 20, l), api.OK}, {disk(2, 2, 0, l), api.OK}, {disk(999, 2, 10009, l), api.OK},
		{disk(1, 0, 0, nil), api.ErrState}, {disk(1, 3, 0, nil), api.ErrRange}, {disk(1, 1, 5, l), api.ErrState}, {disk(1, 1, 5, long(31, 1)), api.ErrMany}, {disk(1, 1, 5, []api.Entry{{Number: 1, Epoch: 1}}), api.ErrKind},
	}
	nows := []int{math.MinInt, -1, 0, 1, 9999, 10000, math.MaxInt}
	for _, d := range disks {
		copies := []faulty[[]api.Entry]{{nil, api.OK}, {d.it.Log, api.OK}, {other, api.ErrState}, {long(31, 1), api.ErrMany}, {by(1000), api.ErrRange}, {[]api.Entry{{Number: 1, Epoch: 1}}, api.ErrKind}}
		epochs := []int{-1, 0, 1, d.it.Epoch - 1, d.it.Epoch, d.it.Epoch + 1, math.MinInt, math.MaxInt}
		for i, now := range nows {
			for _, x := range copies {
				for _, y := range copies {
					for _, m := range epochs {
						for _, n := range epochs {
							want := d.why
							if i < 2 || i > 4 {
								want = api.ErrRange
							} else if want == api.OK {
								want = whyNodes(d.it, [2]int{m, n}, [2]faulty[[]api.Entry]{x, y})
							}
							checkIs(t, api.Cluster{Now: now, Disk: d.it, Nodes: []api.Node{{Epoch: m, Copy: x.it}, {Epoch: n, Copy: y.it}}}, want)
						}
					}
				}
			}
		}
	}
}

// L1: two nodes, not one more or one less, whatever they are: behind time and disk, ahead of what the nodes are.
func TestCheckNodes(t *testing.T) {
	for _, n := range []int{0, 1, 3, 4, 1 << 16} {
		nodes := make([]api.Node, n)
		for i := range nodes {
			nodes[i].Epoch = -i
		}
		checkIs(t, api.Cluster{Nodes: nodes}, api.ErrForm)
		checkIs(t, api.Cluster{Nodes: make([]api.Node, n)}, api.ErrForm)
		checkIs(t, api.Cluster{Now: -1, Nodes: nodes}, api.ErrRange)
		checkIs(t, api.Cluster{Now: 10000, Nodes: nodes}, api.ErrRange)
		checkIs(t, api.Cluster{Disk: disk(0, 0, 1, nil), Nodes: nodes}, api.ErrState)
	}
	checkIs(t, api.Cluster{}, api.ErrForm)
}

// L1: a copy is a beginning of the log, or all of it; not more, and no other one, by whichever field and at whichever place.
func TestCheckCopies(t *testing.T) {
	l := by(2, 4, 6, 8)
	for _, who := range []int{0, 1} {
		for n := range len(l) + 1 {
			for m := range len(l) + 1 {
				want := api.OK
				if n > m {
					want = api.ErrState
				}
				c := of(0, disk(9, 1, 9, l[:m]), 0, 0, 0, 0)
				c.Nodes[who].Copy = l[:n]
				checkIs(t, c, want)
			}
			for i := range n {
				for _, change := range []func(*api.Entry){func(x *api.Entry) { x.Epoch++ }, func(x *api.Entry) { x.Op = free("a") }, func(x *api.Entry) { x.Op.N += 100 }} {
					checkIs(t, with(of(0, disk(9, 1, 9, l), 0, n, 0, n), func(c *api.Cluster) { change(&c.Nodes[who].Copy[i]) }), api.ErrState)
				}
			}
		}
	}
}

// L1: the epochs of both nodes: not one, be it an elder one or the disk's; the disk's is the holder's alone.
func TestCheckEpochs(t *testing.T) {
	for holder := 1; holder <= 2; holder++ {
		for m := range 6 {
			for n := range 6 {
				want := api.OK
				if m == n && m != 0 || m == 5 && holder == 2 || n == 5 && holder == 1 {
					want = api.ErrState
				}
				checkIs(t, of(0, disk(5, holder, 10, nil), m, 0, n, 0), want)
			}
		}
	}
}

// wrong clusters by what Check says of them.
func wrong() map[api.Errno][]api.Cluster {
	l := by(1, 1, 2)
	return map[api.Errno][]api.Cluster{
		api.ErrRange: {of(-1, api.Disk{}, 0, 0, 0, 0), of(10000, disk(0, 0, 1, nil), 0, 0, 0, 0), of(0, disk(1000, 1, 0, nil), 0, 0, 0, 0), of(0, disk(2, 1, 9, l), 3, 3, 0, 0), of(0, disk(2, 1, 9, l), 2, 3, -1, 3)},
		api.ErrState: {of(0, disk(0, 0, 1, nil), 0, 0, 0, 0), {Disk: disk(1, 0, 0, nil)}, of(0, disk(2, 1, 9, l), 1, 0, 1, 0), of(0, disk(2, 1, 9, l), 0, 0, 2, 0), {Disk: disk(2, 1, 9, l), Nodes: []api.Node{{Copy: by(2)}, {Epoch: 9}}}},
		api.ErrForm:  {{}, {Nodes: make([]api.Node, 1)}, {Nodes: []api.Node{{Epoch: 9}, {}, {}}}, {Disk: disk(1, 1, 9, []api.Entry{{Number: 1, Epoch: 1, Op: free("A")}})}},
		api.ErrMany:  {of(0, disk(1, 1, 9, long(31, 1)), 0, 0, 0, 0), {Nodes: []api.Node{{Copy: make([]api.Entry, 1<<16)}, {}}}},
		api.ErrKind:  {{Disk: disk(1, 1, 9, l[:1]), Nodes: []api.Node{{Epoch: 1}, {Copy: []api.Entry{{Number: 1, Epoch: 1}}}}}},
	}
}

// L2, L3, P1: a cluster that is wrong tells ahead of whatever else is wrong.
func TestWrongCluster(t *testing.T) {
	events := []api.Event{later(0), later(-1), lock(1), lock(3), write(1, tick(5)), write(2, api.Op{}), send(1, 5), send(2, 31), reset(1), {}, {Kind: 6}, {Kind: api.EvTime, Who: 1}, {Kind: math.MinInt, Who: math.MinInt, N: math.MinInt, Op: free("")}}
	for want, clusters := range wrong() {
		for _, c := range clusters {
			checkIs(t, c, want)
			for _, v := range events {
				doFails(t, c, v, want)
			}
			for _, who := range []int{0, 1, 2, 3, -1, math.MinInt, math.MaxInt} {
				seenFails(t, c, who, want)
			}
		}
	}
}
