package fence_test

import (
	"math"
	"slices"
	"testing"

	"yardarm/api"
	"yardarm/fence"
)

// J2, J3: the document's example: node 1 has the lock till 10; at 11 node 2 gets it, by a greater epoch; what node 1 writes then, not knowing, is refused.
func TestExample(t *testing.T) {
	d := disk(1, 1, 10, nil)
	acquireIs(t, api.Disk{}, 1, 0, d)
	writeIs(t, d, 1, tick(5))
	d.Log = of(tick(5))
	acquireFails(t, d, 2, 10, api.ErrState)
	then := disk(2, 2, 21, d.Log)
	acquireIs(t, d, 2, 11, then)
	writeFails(t, then, 1, tick(6), api.ErrState)
	writeIs(t, then, 2, tick(7))
	acquireFails(t, then, 1, 21, api.ErrState)
	acquireIs(t, then, 1, 22, disk(3, 1, 32, d.Log))
}

// J2: nobody holds the lock: whoever asks gets it, at any time.
func TestAcquireFirst(t *testing.T) {
	for _, who := range []int{1, 2} {
		for _, now := range []int{0, 1, 10, 9998, 9999} {
			acquireIs(t, api.Disk{}, who, now, disk(1, who, now+10, nil))
		}
	}
}

// J2: who holds it keeps it, by its epoch till Until, that too, and by the next one behind that; even a time that is before the one at which it got it is one at which it holds it.
func TestAcquireAgain(t *testing.T) {
	for _, epoch := range []int{1, 7, 998} {
		for _, who := range []int{1, 2} {
			d := disk(epoch, who, 20, by(1))
			for _, now := range []int{0, 5, 10, 15, 19, 20} {
				acquireIs(t, d, who, now, disk(epoch, who, now+10, d.Log))
			}
			for _, now := range []int{21, 22, 9999} {
				acquireIs(t, d, who, now, disk(epoch+1, who, now+10, d.Log))
			}
		}
	}
}

// J2: the other one gets it behind Until alone, by the next epoch.
func TestAcquireOther(t *testing.T) {
	for _, epoch := range []int{1, 7, 998} {
		for _, who := range []int{1, 2} {
			d := disk(epoch, 3-who, 20, by(1))
			for _, now := range []int{0, 5, 10, 15, 19, 20} {
				acquireFails(t, d, who, now, api.ErrState)
			}
			for _, now := range []int{21, 22, 9999} {
				acquireIs(t, d, who, now, disk(epoch+1, who, now+10, d.Log))
			}
		}
	}
	acquireFails(t, disk(1, 1, 10009, nil), 2, 9999, api.ErrState)
	acquireFails(t, disk(1, 1, 0, nil), 2, 0, api.ErrState)
	acquireIs(t, disk(1, 1, 0, nil), 2, 1, disk(2, 2, 11, nil))
}

// J2: the greatest epoch is the last one; who has it keeps it while it comes in time.
func TestAcquireMany(t *testing.T) {
	for _, who := range []int{1, 2} {
		d := disk(999, who, 20, by(1, 999))
		acquireIs(t, d, who, 20, disk(999, who, 30, d.Log))
		acquireFails(t, d, who, 21, api.ErrMany)
		acquireFails(t, d, 3-who, 20, api.ErrState)
		acquireFails(t, d, 3-who, 21, api.ErrMany)
		acquireIs(t, disk(998, 3-who, 20, nil), who, 21, disk(999, who, 31, nil))
	}
}

// J2: no such node, or no such time: ahead of who holds the lock, and of how many epochs there were.
func TestAcquireRange(t *testing.T) {
	for _, d := range good() {
		for _, who := range []int{0, -1, 3, math.MinInt, math.MaxInt} {
			for _, now := range []int{0, 5, 9999, -1, 10000} {
				acquireFails(t, d, who, now, api.ErrRange)
			}
		}
		for _, now := range []int{-1, 10000, 10009, math.MinInt, math.MaxInt, math.MaxInt - 9} {
			acquireFails(t, d, 1, now, api.ErrRange)
			acquireFails(t, d, 2, now, api.ErrRange)
		}
	}
}

// J2: an entry of the disk's epoch; the lock stays as it is, whoever holds it and till whenever.
func TestWrite(t *testing.T) {
	pool := api.Op{Kind: api.OpPool, Prefix: api.Prefix{Addr: api.Addr{Lo: 8}, Bits: 30}}
	for _, d := range good() {
		if d.Epoch == 0 || len(d.Log) == api.MaxLog {
			continue
		}
		for _, o := range []api.Op{pool, tick(0), {Kind: api.OpGrant, Who: "a", N: 500}, {Kind: api.OpFree, Who: "abcdefgh"}, {Kind: api.OpKeep}} {
			writeIs(t, d, d.Epoch, o)
		}
	}
}

// J2, J3: errors of Write in their order: another epoch than the disk's, an elder one or a greater one; then those of Add.
func TestWriteWrong(t *testing.T) {
	for _, d := range good() {
		for _, n := range []int{d.Epoch - 1, d.Epoch + 1, 0, -1, -d.Epoch - 1, 1000, math.MinInt, math.MaxInt} {
			writeFails(t, d, n, tick(5), api.ErrState)
			for _, ops := range wrongOps() {
				writeFails(t, d, n, ops[0], api.ErrState)
			}
		}
		if d.Epoch == 0 {
			continue
		}
		for want, ops := range wrongOps() {
			for _, o := range ops {
				writeFails(t, d, d.Epoch, o, want)
			}
		}
		if len(d.Log) == api.MaxLog {
			writeFails(t, d, d.Epoch, tick(5), api.ErrMany)
		}
	}
}

// behind: a disk whose log has room behind it that has something in it.
func behind(d api.Disk) api.Disk {
	d.Log = append(slices.Clone(d.Log), long(5, 77)...)[:len(d.Log)]
	return d
}

// P2, P3: what comes in is only read, the room behind the log too; answers are the caller's, and the same each time.
func TestOnlyRead(t *testing.T) {
	for _, d := range good() {
		d = behind(d)
		room, who, now := slices.Clone(d.Log[:len(d.Log)+5]), max(d.Lock.Holder, 1), min(d.Lock.Until, 9999)
		x, n, e := fence.Acquire(d, who, now)
		y, f := fence.Write(d, d.Epoch, tick(5))
		z, g := fence.Write(d, d.Epoch, tick(6))
		fence.Check(d)
		if e != api.OK || f != g || !slices.Equal(d.Log[:len(room)], room) {
			t.Errorf("%d %d %d; %v was %v", e, f, g, d.Log[:len(room)], room)
		}
		if f == api.OK && (y.Log[len(d.Log)].Op.N != 5 || z.Log[len(d.Log)].Op.N != 6) {
			t.Errorf("two answers share memory: %v %v", y, z)
		}
		was, wrote := slices.Clone(x.Log), slices.Clone(y.Log)
		clear(d.Log[:cap(d.Log)])
		clear(z.Log[:cap(z.Log)])
		if !slices.Equal(x.Log, was) || !slices.Equal(was, room[:len(was)]) || !slices.Equal(y.Log, wrote) {
			t.Errorf("an answer changes with what was handed in: %v was %v; %v was %v", x.Log, was, y.Log, wrote)
		}
		d.Log = room[:len(d.Log)]
		clear(x.Log[:cap(x.Log)])
		acquireIs(t, d, who, now, disk(n, who, now+10, was))
	}
}
