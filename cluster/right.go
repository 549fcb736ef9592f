package cluster

import (
	"slices"

	"yardarm/api"
	"yardarm/log"
)

// nodes are numbered from 1 to this.
const nodes = 2

// lookNode beside a disk that is right.
func lookNode(n api.Node, d api.Disk) api.Errno {
	if outside(n.Epoch, 0, d.Epoch) {
		return api.ErrRange
	}
	begins, e := log.Begins(n.Copy, d.Log)
	if e != api.OK {
		return e
	}
	if !begins {
		return api.ErrState
	}
	return api.OK
}

// lookEpochs of nodes that are right, each by itself: an epoch is one node's alone, and the disk's is the holder's.
func lookEpochs(c api.Cluster) api.Errno {
	if n := c.Nodes[0].Epoch; n != 0 && n == c.Nodes[1].Epoch {
		return api.ErrState
	}
	for i, n := range c.Nodes {
		if n.Epoch != 0 && n.Epoch == c.Disk.Epoch && i+1 != c.Disk.Lock.Holder {
			return api.ErrState
		}
	}
	return api.OK
}

// own: the same cluster in memory of its own, list by list.
func own(c api.Cluster) api.Cluster {
	c.Disk.Log = slices.Clone(c.Disk.Log)
	c.Nodes = slices.Clone(c.Nodes)
	for i, n := range c.Nodes {
		c.Nodes[i].Copy = slices.Clone(n.Copy)
	}
	return c
}

// outside of what may stand there: from the least to the most.
func outside(n, least, most int) bool { return n < least || n > most }
