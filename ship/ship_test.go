package ship_test

import (
	"math"
	"slices"
	"testing"

	"yardarm/api"
	"yardarm/log"
	"yardarm/ship"
)

// K1: what stands behind each copy of a beginning, none of it, some, or all, at most many.
func TestNext(t *testing.T) {
	for _, l := range good() {
		for n := range len(l) + 1 {
			have := slices.Clone(l[:n])
			for many := range api.MaxLog + 1 {
				nextIs(t, have, l, many, l[n:min(n+many, len(l))])
			}
		}
		nextIs(t, nil, l, 30, l)
		nextIs(t, []api.Entry{}, l, 30, l)
	}
}

// badMany: so many may not be asked for.
var badMany = []int{-1, 31, -30, 1 << 32, math.MinInt, math.MaxInt}

// K1: so many are not from 0 to MaxLog, however many there are.
func TestNextRange(t *testing.T) {
	for _, l := range good() {
		for n := range len(l) + 1 {
			for _, many := range badMany {
				nextFails(t, l[:n], l, many, api.ErrRange)
			}
		}
	}
}

// K1: what is longer than the log, or has another entry, by whichever field and at whichever place, is no beginning; that comes ahead of how many are asked for.
func TestNextOther(t *testing.T) {
	for _, l := range good() {
		for n := range len(l) + 1 {
			for _, many := range append(badMany, 0, 1, 30) {
				if n < len(l) {
					nextFails(t, l, l[:n], many, api.ErrState)
					nextFails(t, l[:n+1], l[:n], many, api.ErrState)
				}
			}
		}
	}
	l := by(2, 4, 6, 8)
	for i := range l {
		for _, change := range []func(*api.Entry){func(n *api.Entry) { n.Epoch++ }, func(n *api.Entry) { n.Op.N += 100 }, func(n *api.Entry) { n.Op = api.Op{Kind: api.OpFree, Who: "a"} }} {
			other := with(l, i, change)
			for n := range len(l) + 1 {
				for _, many := range append(badMany, 0, 1, 30) {
					if n > i {
						nextFails(t, other[:n], l, many, api.ErrState)
					} else if many >= 0 && many <= 30 {
						nextIs(t, other[:n], l, many, l[n:min(n+many, len(l))])
					}
				}
			}
		}
	}
}

// K1, P1: a log that is wrong tells ahead of whatever else is: that of have, then the other one.
func TestNextWrong(t *testing.T) {
	for want, logs := range wrong() {
		for _, l := range logs {
			for _, many := range append(badMany, 0, 30) {
				nextFails(t, l, l, many, want)
				for _, x := range good() {
					nextFails(t, l, x, many, want)
					nextFails(t, x, l, many, want)
				}
				for _, others := range wrong() {
					nextFails(t, l, others[0], many, want)
				}
			}
		}
	}
}

// K1: each log by each of its parts, and nothing behind nothing.
func TestTake(t *testing.T) {
	for _, l := range good() {
		for n := range len(l) + 1 {
			takeIs(t, l[:n], slices.Clone(l[n:]), l)
			takeIs(t, l[:n], nil, l[:n])
			takeIs(t, l[:n], []api.Entry{}, l[:n])
		}
	}
	takeIs(t, nil, nil, nil)
	takeIs(t, by(1, 5), by(1, 5, 5)[2:], by(1, 5, 5))
	takeIs(t, by(1, 5), by(1, 5, 999)[2:], by(1, 5, 999))
}

// K1: an entry that does not follow: its number is another one, or its epoch is elder.
func TestTakeFollows(t *testing.T) {
	l := long(30, 4)
	for n := range l {
		for m := range l {
			if n != m {
				takeFails(t, l[:n], l[m:m+1], api.ErrState)
			}
		}
		for _, number := range []int{0, -1, n, n + 2, 31, math.MinInt, math.MaxInt} {
			if number != n+1 {
				takeFails(t, l[:n], with(l, n, func(x *api.Entry) { x.Number = number })[n:], api.ErrState)
			}
		}
		if n > 0 {
			takeFails(t, l[:n], with(l, n, func(x *api.Entry) { x.Epoch = 3 })[n:], api.ErrState)
		}
	}
	takeFails(t, by(1), by(1, 2, 1)[1:], api.ErrState)
	takeFails(t, by(1, 2), by(1, 2, 3, 4)[3:], api.ErrState)
}

// K1: what else may be wrong with what comes of it, told as Check tells it: of both as they stand.
func TestTakeWrongMore(t *testing.T) {
	for _, have := range [][]api.Entry{nil, by(1), by(1, 2, 2), long(29, 2)} {
		next := api.Entry{Number: len(have) + 1, Epoch: 2, Op: tick(1)}
		for _, n := range []int{0, -1, 1000, math.MinInt, math.MaxInt} {
			x := next
			x.Epoch = n
			takeFails(t, have, []api.Entry{x}, api.ErrRange)
			x.Op = api.Op{}
			takeFails(t, have, []api.Entry{x}, api.ErrRange)
			x.Number++
			takeFails(t, have, []api.Entry{x}, api.ErrState)
		}
		for want, o := range map[api.Errno]api.Op{api.ErrKind: {Kind: 9}, api.ErrForm: {Kind: api.OpFree}, api.ErrRange: tick(10000), api.ErrMany: {Kind: api.OpPool}} {
			x := next
			x.Op = o
			takeFails(t, have, []api.Entry{x}, want)
		}
	}
}

// K1: more than a log may have, whatever it is; a copy that is full takes nothing but nothing.
func TestTakeMany(t *testing.T) {
	l := long(31, 1)
	for n := range 31 {
		takeFails(t, l[:n], l[n:], api.ErrMany)
		takeFails(t, l[:n], make([]api.Entry, 31-n), api.ErrMany)
		takeFails(t, l[:n], make([]api.Entry, 1<<16), api.ErrMany)
	}
	takeIs(t, l[:30], nil, l[:30])
	takeIs(t, l[:29], l[29:30], l[:30])
}

// K1, P1: a copy that is wrong tells ahead of whatever it is to take.
func TestTakeWrongHave(t *testing.T) {
	for want, logs := range wrong() {
		for _, l := range logs {
			takeFails(t, l, nil, want)
			takeFails(t, nil, l, want)
			takeFails(t, l, make([]api.Entry, 1<<16), want)
			for _, others := range wrong() {
				takeFails(t, l, others[0], want)
			}
		}
	}
}

// K2: a copy that takes what comes next, some at a time, is a beginning of the log, nearer to its end each time, and in the end all of it; what was taken is refused when it comes again.
func TestCopies(t *testing.T) {
	var d draw
	for _, l := range good() {
		for range 50 {
			var have []api.Entry
			for len(have) < len(l) {
				many := d.below(4)
				more, e := ship.Next(have, l, many)
				now, f := ship.Take(have, more)
				begins, _ := log.Begins(now, l)
				if e != api.OK || f != api.OK || !begins || len(now) != min(len(have)+many, len(l)) {
					t.Fatalf("from %v by %d %v: %v %d %d", have, many, more, now, e, f)
				}
				if many > 0 {
					takeAgain(t, now, more)
				}
				have = now
			}
			nextIs(t, have, l, 30, nil)
			takeIs(t, have, nil, l)
		}
	}
}

// takeAgain what was taken: refused, as it does not follow, if it is not already too much.
func takeAgain(t *testing.T, have, more []api.Entry) {
	t.Helper()
	want := api.ErrState
	if len(have)+len(more) > api.MaxLog {
		want = api.ErrMany
	}
	takeFails(t, have, more, want)
}

// K2: two copies of one log, wherever they are: the farther one sends the other one what it lacks.
func TestCopiesOfCopies(t *testing.T) {
	for _, l := range good() {
		for n := range len(l) + 1 {
			for m := range n + 1 {
				more, e := ship.Next(l[:m], l[:n], 30)
				if e != api.OK {
					t.Errorf("Next of %v and %v: %d", l[:m], l[:n], e)
				}
				takeIs(t, l[:m], more, l[:n])
			}
		}
	}
}

// behind: a log with room behind it that has something in it.
func behind(l []api.Entry) []api.Entry {
	return laid(l, long(5, 77))[:len(l)]
}

// P2, P3: what comes in is only read, the room behind it too; answers are the caller's, and the same each time.
func TestOnlyRead(t *testing.T) {
	for _, l := range good() {
		for n := range len(l) + 1 {
			have, all, more := behind(l[:n]), behind(l), behind(l[n:])
			x, _ := ship.Next(have, all, 30)
			y, _ := ship.Take(have, more)
			for _, in := range [][2][]api.Entry{{have, l[:n]}, {all, l}, {more, l[n:]}} {
				if !slices.Equal(in[0][:len(in[0])+5], laid(in[1], long(5, 77))) {
					t.Errorf("%v was %v", in[0][:len(in[0])+5], in[1])
				}
				clear(in[0][:cap(in[0])])
			}
			if !slices.Equal(x, l[n:]) || !slices.Equal(y, l) {
				t.Errorf("an answer changes with what was handed in: %v %v", x, y)
			}
			clear(x[:cap(x)])
			clear(y[:cap(y)])
			nextIs(t, l[:n], l, 30, l[n:])
			takeIs(t, l[:n], l[n:], l)
		}
	}
}

// P2: nothing to send, or to take, and yet the answer has none of the room that there is.
func TestNoRoom(t *testing.T) {
	l := behind(by(1, 2))
	x, _ := ship.Next(l, l, 30)
	y, _ := ship.Take(l, nil)
	z, _ := ship.Next(nil, l, 1)
	_, _, _ = append(x, by(5)...), append(y, by(6)...), append(z, by(7)...)
	if !slices.Equal(l[:7], laid(by(1, 2), long(5, 77))) {
		t.Errorf("%v was %v", l[:7], by(1, 2))
	}
}

// wild numbers, most of them wrong.
func wild(d *draw) int {
	return []int{math.MinInt, -1, 0, 1, 2, 3, 30, 31, 998, 999, 1000, math.MaxInt}[d.below(12)]
}

// wildLog: a few entries, of which something may be wrong.
func wildLog(d *draw) []api.Entry {
	l := slices.Clone(mixed()[:d.below(5)])
	for i := range l {
		if d.below(4) == 0 {
			l[i].Number = wild(d)
		}
		if d.below(3) == 0 {
			l[i].Epoch = wild(d)
		}
		if d.below(4) == 0 {
			l[i].Op.N = wild(d)
		}
	}
	return l
}

// P1: whatever comes in, no call panics, there is nothing beside an error, and the first error that is named tells.
func TestWild(t *testing.T) {
	var d draw = 3
	for range 20000 {
		have, l, many := wildLog(&d), wildLog(&d), wild(&d)
		first := log.Check(have)
		begins, second := log.Begins(have, l)
		switch {
		case second != api.OK:
			nextFails(t, have, l, many, second)
		case !begins:
			nextFails(t, have, l, many, api.ErrState)
		case many < 0 || many > 30:
			nextFails(t, have, l, many, api.ErrRange)
		default:
			nextIs(t, have, l, many, l[len(have):min(len(have)+many, len(l))])
		}
		both := laid(have, l)
		switch then := log.Check(both); {
		case first != api.OK:
			takeFails(t, have, l, first)
		case then != api.OK:
			takeFails(t, have, l, then)
		default:
			takeIs(t, have, l, both)
		}
	}
}
