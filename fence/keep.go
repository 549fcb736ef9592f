package fence

import (
	"slices"

	"yardarm/api"
	"yardarm/log"
)

// nodes are numbered from 1 to this.
const nodes = 2

// keeper is who keeps a disk. The log may still be that of who handed the disk in: it is only read, and what is put in its place is new.
type keeper struct{ api.Disk }

func (k *keeper) lookLock() api.Errno {
	if outside(k.Epoch, api.MaxEpoch) || outside(k.Lock.Holder, nodes) || outside(k.Lock.Until, api.MaxTime+api.LockTime) {
		return api.ErrRange
	}
	// The lock is never given back: there is a holder from the first epoch on.
	if nobody := k.Lock.Holder == 0; nobody != (k.Epoch == 0) || nobody && k.Lock.Until != 0 {
		return api.ErrState
	}
	return api.OK
}

func (k *keeper) lookLog() api.Errno {
	if e := log.Check(k.Log); e != api.OK {
		return e
	}
	if slices.ContainsFunc(k.Log, func(n api.Entry) bool { return n.Epoch > k.Epoch }) {
		return api.ErrState
	}
	return api.OK
}

// lend the lock. Who held it, and comes too late, gets a new epoch, as anyone else would: so an epoch never stands for two times that are apart.
func (k *keeper) lend(who, now int) api.Errno {
	held := k.Lock.Holder != 0 && k.Lock.Until >= now
	if held && k.Lock.Holder != who {
		return api.ErrState
	}
	if !held {
		if k.Epoch >= api.MaxEpoch {
			return api.ErrMany
		}
		k.Epoch++
	}
	k.Lock = api.Lock{Holder: who, Until: now + api.LockTime}
	return api.OK
}

// write by an epoch. The time is not asked: till someone else gets the lock, and so a greater epoch, nothing can come between.
func (k *keeper) write(epoch int, o api.Op) api.Errno {
	if epoch != k.Epoch || epoch == 0 {
		return api.ErrState
	}
	l, e := log.Add(k.Log, epoch, o)
	if e != api.OK {
		return e
	}
	k.Log = l
	return api.OK
}

// outside of what may stand there: from 0 to the most.
func outside(n, most int) bool { return n < 0 || n > most }
