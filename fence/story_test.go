package fence_test

import (
	"slices"
	"testing"

	"yardarm/api"
	"yardarm/fence"
)

// holding of the lock, as it was lent: to whom, till when.
type holding struct{ who, until int }

// book of a disk: each time at which the lock was lent anew is a line, and its epoch that line's number; beside it what was written, and by whose line.
type book struct {
	lent    []holding
	written []api.Entry
}

func (b *book) disk() api.Disk {
	if len(b.lent) == 0 {
		return api.Disk{}
	}
	last := b.lent[len(b.lent)-1]
	return disk(len(b.lent), last.who, last.until, slices.Clone(b.written))
}

// lend the lock, if it may be: who asks in time goes on in its line.
func (b *book) lend(who, now int) bool {
	if len(b.lent) > 0 && now <= b.lent[len(b.lent)-1].until {
		last := &b.lent[len(b.lent)-1]
		if last.who != who {
			return false
		}
		last.until = now + 10
		return true
	}
	b.lent = append(b.lent, holding{who, now + 10})
	return true
}

// story of two nodes that try to get the lock and write by the epoch that they believe to hold; how often someone was refused.
func story(t *testing.T, d *draw) (late, other int) {
	t.Helper()
	var b book
	believes := [3]int{}
	now := 0
	for range 120 {
		who := 1 + d.below(2)
		at := b.disk()
		switch d.below(3) {
		case 0:
			now += d.below(8)
		case 1:
			if !b.lend(who, now) {
				acquireFails(t, at, who, now, api.ErrState)
				other++
				continue
			}
			acquireIs(t, at, who, now, b.disk())
			believes[who] = len(b.lent)
		case 2:
			o := tick(now)
			if believes[who] == 0 || believes[who] != len(b.lent) {
				writeFails(t, at, believes[who], o, api.ErrState)
				late++
			} else if len(b.written) == 30 {
				writeFails(t, at, believes[who], o, api.ErrMany)
			} else {
				writeIs(t, at, believes[who], o)
				b.written = append(b.written, api.Entry{Number: len(b.written) + 1, Epoch: believes[who], Op: o})
			}
		}
	}
	owners(t, b)
	return late, other
}

// owners: each entry is of an epoch that was lent, and of epochs that do not fall.
func owners(t *testing.T, b book) {
	t.Helper()
	d := b.disk()
	checkIs(t, d, api.OK)
	for i, n := range d.Log {
		if n.Epoch > len(b.lent) || i > 0 && n.Epoch < d.Log[i-1].Epoch {
			t.Errorf("entry %v of %v", n, d)
		}
	}
}

// J2, J3: long stories, as the book says: who is too late, whatever it believes, is refused.
func TestStories(t *testing.T) {
	var d draw
	late, other := 0, 0
	for range 300 {
		l, o := story(t, &d)
		late, other = late+l, other+o
		if t.Failed() {
			return
		}
	}
	if late < 1000 || other < 1000 {
		t.Errorf("refused %d and %d times: too few to tell", late, other)
	}
}

// J3: once an epoch is over nothing is written by it any more, whatever is tried: by the program's own answers alone.
func TestNeverAgain(t *testing.T) {
	var r draw
	var d api.Disk
	for now := 0; now < 4000; now += 3 + r.below(12) {
		x, n, e := fence.Acquire(d, 1+r.below(2), now)
		if e != api.OK {
			continue
		}
		for elder := -1; elder < n; elder++ {
			writeFails(t, x, elder, tick(now), api.ErrState)
		}
		d = x
		if y, e := fence.Write(d, n, tick(now)); e == api.OK {
			d = y
		}
	}
	if d.Epoch < 100 || len(d.Log) != api.MaxLog {
		t.Errorf("%v: too few to tell", d)
	}
}
