package cluster_test

import (
	"slices"
	"testing"

	"yardarm/api"
	"yardarm/cluster"
	"yardarm/log"
)

// holding of the lock, as it was lent: to whom, till when.
type holding struct{ who, until int }

// book of a cluster: each time at which the lock was lent anew is a line, and its epoch that line's number; beside it what was written, of each node which line it believes to be its own, and how much it has.
type book struct {
	now      int
	lent     []holding
	written  []api.Entry
	believes [3]int
	has      [3]int
}

func (b *book) cluster() api.Cluster {
	d := api.Disk{Log: slices.Clone(b.written)}
	if n := len(b.lent); n > 0 {
		d.Epoch, d.Lock = n, api.Lock{Holder: b.lent[n-1].who, Until: b.lent[n-1].until}
	}
	return of(b.now, d, b.believes[1], b.has[1], b.believes[2], b.has[2])
}

// do an event that is right: is it done?
func (b *book) do(v api.Event) bool {
	switch v.Kind {
	case api.EvTime:
		b.now += v.N
	case api.EvLock:
		return b.lend(v.Who)
	case api.EvWrite:
		if len(b.lent) == 0 || b.believes[v.Who] != len(b.lent) || len(b.written) == 30 {
			return false
		}
		b.written = append(b.written, api.Entry{Number: len(b.written) + 1, Epoch: len(b.lent), Op: v.Op})
	case api.EvShip:
		b.has[v.Who] = min(b.has[v.Who]+v.N, len(b.written))
	case api.EvReset:
		b.believes[v.Who], b.has[v.Who] = 0, 0
	}
	return true
}

// lend the lock, if it may be: who asks in time goes on in its line.
func (b *book) lend(who int) bool {
	n := len(b.lent)
	if n > 0 && b.now <= b.lent[n-1].until {
		if b.lent[n-1].who != who {
			return false
		}
		b.lent[n-1].until = b.now + 10
	} else {
		b.lent = append(b.lent, holding{who, b.now + 10})
	}
	b.believes[who] = len(b.lent)
	return true
}

// happens: an event that is right, of a small world, so that nodes, and ops, are in each other's way.
func happens(d *draw) api.Event {
	who := 1 + d.below(2)
	switch d.below(8) {
	case 0:
		return later(d.below(9))
	case 1, 2:
		return lock(who)
	case 3:
		return send(who, d.below(5))
	case 4:
		if d.below(4) == 0 {
			return reset(who)
		}
		return send(who, 30)
	}
	return write(who, anOp(d))
}

// anOp of a small world.
func anOp(d *draw) api.Op {
	a := []api.Addr{four(8), four(12), sixteen(7, 0)}[d.below(3)]
	bits := 30
	if a.V6 {
		bits = 126
	}
	who := string([]byte{byte('a' + d.below(7))})
	switch k := d.below(10); {
	case k < 2:
		return addPool(a, bits+d.below(3))
	case k == 2:
		a.Lo += uint64(d.below(4))
		return keep(a)
	case k == 3:
		return free(who)
	case k < 6:
		return tick(d.below(12))
	}
	return grant(who, d.below(3), 1+d.below(6))
}

// L2, L4: long stories, as the book says; how often something was done, and was not.
func TestStories(t *testing.T) {
	var d draw
	met := map[int]int{}
	for range 400 {
		var b book
		for range 120 {
			was, v := b.cluster(), happens(&d)
			if !b.do(v) {
				notDone(t, was, v)
				met[-v.Kind]++
				continue
			}
			doIs(t, was, v, b.cluster())
			met[v.Kind]++
		}
		if t.Failed() {
			return
		}
	}
	for _, kind := range []int{1, 2, 3, 4, 5, -2, -3} {
		if met[kind] < 500 {
			t.Errorf("stories have %v: too few to tell", met)
		}
	}
}

// L3, L4: scripts that are as long as they may be: what they leave, as the book says.
func TestScripts(t *testing.T) {
	var d draw = 5
	for range 300 {
		var b book
		var l []api.Event
		var done []bool
		for range d.below(41) {
			v := happens(&d)
			l, done = append(l, v), append(done, b.do(v))
		}
		runIs(t, l, b.cluster(), done)
	}
}

// past of a cluster: what its disk's log was at each time, by how many entries it had, and what that replays.
type past struct {
	log    []api.Entry
	states []api.State
}

// goes on to a later cluster: what was written stays, in order, and one event adds one entry at most.
func (p *past) goes(t *testing.T, c api.Cluster) {
	t.Helper()
	l := c.Disk.Log
	if len(l) < len(p.log) || len(l) > len(p.log)+1 || !slices.Equal(l[:len(p.log)], p.log) {
		t.Fatalf("the log was %v, and is %v", p.log, l)
	}
	if len(l) > len(p.log) && l[len(l)-1].Epoch != c.Disk.Epoch {
		t.Fatalf("%v was written by an elder epoch than %d", l, c.Disk.Epoch)
	}
	p.log = slices.Clone(l)
	for len(p.states) <= len(l) {
		s, _, e := log.Replay(l)
		if e != api.OK {
			t.Fatalf("Replay of %v: %d", l, e)
		}
		p.states = append(p.states, s)
	}
}

// told: is what a node has seen what was true at some time?
func (p *past) told(t *testing.T, c api.Cluster, who int) {
	t.Helper()
	s, e := cluster.Seen(c, who)
	if e != api.OK || !slices.ContainsFunc(p.states, func(x api.State) bool { return likeState(s, x) }) {
		t.Fatalf("node %d of %v has seen %v %d, which never was", who, c, s, e)
	}
}

// writers: how many nodes can write now.
func writers(t *testing.T, c api.Cluster) int {
	t.Helper()
	n := 0
	for who := 1; who <= 2; who++ {
		x, ok, e := cluster.Do(c, write(who, tick(5)))
		if e != api.OK || ok == like(x, c) {
			t.Fatalf("%v: %v %v %d", c, x, ok, e)
		}
		if ok {
			n++
		}
	}
	return n
}

// L4: by the program's own answers alone: what was written stays written, in order; only one node at a time can write; and what a node has seen is what was true at some time.
func TestWhateverHappens(t *testing.T) {
	var d draw = 9
	met := map[int]int{}
	for range 200 {
		c := cluster.New()
		var p past
		p.goes(t, c)
		for range 100 {
			x, _, e := cluster.Do(c, happens(&d))
			if e != api.OK || cluster.Check(x) != api.OK {
				t.Fatalf("%v behind %v: %d %d", x, c, e, cluster.Check(x))
			}
			c = x
			p.goes(t, c)
			p.told(t, c, 1)
			p.told(t, c, 2)
			n := writers(t, c)
			if met[n]++; n > 1 {
				t.Fatalf("%d nodes can write in %v", n, c)
			}
		}
	}
	if met[0] < 1000 || met[1] < 1000 {
		t.Errorf("%v could write: too few to tell", met)
	}
}

// L4: a node that lost the lock can not write, whatever else happens, till it gets the lock anew.
func TestLost(t *testing.T) {
	var d draw = 11
	lost := 0
	for range 300 {
		c := cluster.New()
		for range 60 {
			for who := 1; who <= 2; who++ {
				if n := c.Nodes[who-1].Epoch; n != 0 && n < c.Disk.Epoch {
					lost++
					notDone(t, c, write(who, tick(5)))
				}
			}
			v := happens(&d)
			was := c
			c, _, _ = cluster.Do(c, v)
			for i, n := range c.Nodes {
				if n.Epoch > was.Nodes[i].Epoch && v != lock(i+1) {
					t.Fatalf("%v gave node %d epoch %d", v, i+1, n.Epoch)
				}
			}
		}
	}
	if lost < 1000 {
		t.Errorf("lost %d times: too few to tell", lost)
	}
}
