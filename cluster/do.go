package cluster

import (
	"yardarm/api"
	"yardarm/fence"
	"yardarm/ship"
)

// doer is who does an event: a cluster that is right, all of it the doer's own.
type doer struct{ api.Cluster }

// look at an event that comes in: may it be tried?
func (d *doer) look(v api.Event) api.Errno {
	if v.Kind < api.EvTime || v.Kind > api.EvReset {
		return api.ErrKind
	}
	if v != named(v) {
		return api.ErrForm
	}
	// What is left of the time is held against N, as Now and N may be more than an int has.
	if v.Kind == api.EvTime && outside(v.N, 0, api.MaxTime-d.Now) {
		return api.ErrRange
	}
	if v.Kind != api.EvTime && outside(v.Who, 1, nodes) {
		return api.ErrRange
	}
	if v.Kind == api.EvShip && outside(v.N, 0, api.MaxLog) {
		return api.ErrRange
	}
	return api.OK
}

// named: an event that has what its kind names, and nothing else.
func named(v api.Event) api.Event {
	n := api.Event{Kind: v.Kind}
	if v.Kind != api.EvTime {
		n.Who = v.Who
	}
	switch v.Kind {
	case api.EvTime, api.EvShip:
		n.N = v.N
	case api.EvWrite:
		n.Op = v.Op
	}
	return n
}

// do an event that may be tried. Behind an error nothing has changed.
func (d *doer) do(v api.Event) api.Errno {
	switch v.Kind {
	case api.EvTime:
		d.Now += v.N
	case api.EvLock:
		return d.lock(v.Who)
	case api.EvWrite:
		return d.write(v.Who, v.Op)
	case api.EvShip:
		return d.send(v.Who, v.N)
	case api.EvReset:
		d.Nodes[v.Who-1] = api.Node{}
	}
	return api.OK
}

func (d *doer) lock(who int) api.Errno {
	disk, epoch, e := fence.Acquire(d.Disk, who, d.Now)
	if e != api.OK {
		return e
	}
	d.Disk, d.Nodes[who-1].Epoch = disk, epoch
	return api.OK
}

// write by what the node believes: it is the disk that tells whether that is so still.
func (d *doer) write(who int, o api.Op) api.Errno {
	disk, e := fence.Write(d.Disk, d.Nodes[who-1].Epoch, o)
	if e != api.OK {
		return e
	}
	d.Disk = disk
	return api.OK
}

func (d *doer) send(who, many int) api.Errno {
	n := &d.Nodes[who-1]
	more, e := ship.Next(n.Copy, d.Disk.Log, many)
	if e != api.OK {
		return e
	}
	l, e := ship.Take(n.Copy, more)
	if e != api.OK {
		return e
	}
	n.Copy = l
	return api.OK
}
