package fence_test

import (
	"math"
	"testing"

	"yardarm/api"
)

// J1: disks that are right.
func TestCheck(t *testing.T) {
	for _, d := range good() {
		checkIs(t, d, api.OK)
	}
}

// J1: each number at its edges, all of them in every company: first whether each may stand there, then whether they go together, then the log, then its epochs.
func TestCheckNumbers(t *testing.T) {
	type sample struct {
		log []api.Entry
		why api.Errno // what Check of a log says
		top int       // the greatest epoch
	}
	logs := []sample{
		{nil, api.OK, 0}, {by(1), api.OK, 1}, {by(1, 2, 2), api.OK, 2}, {by(999), api.OK, 999}, {long(30, 1), api.OK, 1},
		{long(31, 1), api.ErrMany, 1}, {by(2, 1000), api.ErrRange, 1000}, {by(2, 1), api.ErrState, 2}, {of(api.Op{}), api.ErrKind, 1}, {of(api.Op{Kind: api.OpFree}), api.ErrForm, 1},
	}
	epochs, holders, untils := []int{math.MinInt, -1, 0, 1, 2, 998, 999, 1000, math.MaxInt}, []int{math.MinInt, -1, 0, 1, 2, 3, math.MaxInt}, []int{math.MinInt, -1, 0, 1, 9999, 10009, 10010, math.MaxInt}
	for e, epoch := range epochs {
		for h, holder := range holders {
			for u, until := range untils {
				for _, l := range logs {
					want := l.why
					if want == api.OK && l.top > epoch {
						want = api.ErrState
					}
					if e < 2 || e > 6 || h < 2 || h > 4 || u < 2 || u > 5 {
						want = api.ErrRange
					} else if holder == 0 && (epoch != 0 || until != 0) {
						want = api.ErrState
					} else if holder != 0 && epoch == 0 {
						want = api.ErrState
					}
					checkIs(t, disk(epoch, holder, until, l.log), want)
				}
			}
		}
	}
}

// J1: an entry of a greater epoch than the disk's, at whichever place; what is wrong with the log itself comes ahead of that.
func TestCheckEpochs(t *testing.T) {
	for _, l := range [][]api.Entry{by(3), by(1, 3), by(3, 3), by(1, 2, 3), by(2, 999), long(30, 3)} {
		checkIs(t, disk(2, 1, 5, l), api.ErrState)
		checkIs(t, disk(999, 1, 5, l), api.OK)
	}
	checkIs(t, disk(3, 1, 5, by(1, 2, 3)), api.OK)
	checkIs(t, disk(2, 1, 5, append(by(3), api.Entry{Number: 2, Epoch: 1000})), api.ErrRange)
	checkIs(t, disk(2, 1, 5, append(by(3), api.Entry{Number: 2, Epoch: 3})), api.ErrKind)
	checkIs(t, disk(2, 1, 5, long(31, 3)), api.ErrMany)
	checkIs(t, api.Disk{Log: by(1)}, api.ErrState)
	checkIs(t, api.Disk{Log: by(0)}, api.ErrRange)
	checkIs(t, api.Disk{Log: make([]api.Entry, 1<<16)}, api.ErrMany)
}

// wrong disks by what Check says of them.
func wrong() map[api.Errno][]api.Disk {
	return map[api.Errno][]api.Disk{
		api.ErrRange: {disk(-1, 1, 5, nil), disk(1000, 1, 5, nil), disk(1, 3, 5, nil), disk(1, -1, 5, nil), disk(1, 1, -1, nil), disk(1, 1, 10010, nil), disk(0, 3, 0, long(31, 1)), disk(1, 1, 5, by(1000))},
		api.ErrState: {disk(1, 0, 0, nil), disk(0, 0, 1, nil), disk(0, 1, 0, nil), disk(0, 2, 10, long(31, 1)), disk(1, 1, 5, by(2)), disk(3, 1, 5, by(2, 1))},
		api.ErrMany:  {disk(1, 1, 5, long(31, 1)), disk(1, 1, 5, of(api.Op{Kind: api.OpPool}))},
		api.ErrKind:  {disk(1, 1, 5, of(api.Op{}))},
		api.ErrForm:  {disk(1, 1, 5, of(api.Op{Kind: api.OpFree, Who: "A"}))},
	}
}

// J2, P1: a disk that is wrong tells ahead of whatever else is wrong.
func TestWrongDisk(t *testing.T) {
	for want, disks := range wrong() {
		for _, d := range disks {
			checkIs(t, d, want)
			for _, n := range []int{-1, 0, 1, 2, 3, 6, 9999, 10000, d.Epoch, math.MaxInt} {
				acquireFails(t, d, 1, n, want)
				acquireFails(t, d, n, 20, want)
				writeFails(t, d, n, tick(5), want)
				writeFails(t, d, n, api.Op{}, want)
				writeFails(t, d, n, api.Op{Kind: api.OpFree}, want)
			}
		}
	}
}
