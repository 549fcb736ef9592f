package ship_test

import (
	"slices"
	"testing"

	"yardarm/api"
	"yardarm/ship"
)

func tick(n int) api.Op { return api.Op{Kind: api.OpTick, N: n} }

// by: a log of entries of these epochs, whose ops are right.
func by(epochs ...int) []api.Entry {
	var l []api.Entry
	for i, n := range epochs {
		l = append(l, api.Entry{Number: i + 1, Epoch: n, Op: tick(i)})
	}
	return l
}

// long: a log of so many entries, all of one epoch.
func long(n, epoch int) []api.Entry {
	return by(slices.Repeat([]int{epoch}, n)...)
}

// of: a log of ops, all of one epoch.
func of(ops ...api.Op) []api.Entry {
	var l []api.Entry
	for i, o := range ops {
		l = append(l, api.Entry{Number: i + 1, Epoch: 1, Op: o})
	}
	return l
}

// mixed: a log with ops of all kinds.
func mixed() []api.Entry {
	p := api.Prefix{Addr: api.Addr{V6: true, Hi: 7, Lo: 8}, Bits: 126}
	return of(api.Op{Kind: api.OpPool, Prefix: p}, api.Op{Kind: api.OpKeep, Addr: p.Addr}, api.Op{Kind: api.OpGrant, Who: "ann", N: 5}, tick(3), api.Op{Kind: api.OpFree, Who: "ann"})
}

// good logs, of as few and of as many entries as there may be, of the least and of the greatest epochs.
func good() [][]api.Entry {
	up := long(30, 1)
	for i := range up {
		up[i].Epoch += i
	}
	return [][]api.Entry{nil, {}, by(1), by(999), by(1, 1), by(1, 999), by(1, 2, 2, 5, 998), mixed(), long(29, 3), long(30, 1), long(30, 999), up}
}

// wrong logs by what Check says of them.
func wrong() map[api.Errno][][]api.Entry {
	return map[api.Errno][][]api.Entry{
		api.ErrMany:  {long(31, 1), make([]api.Entry, 1<<16), of(api.Op{Kind: api.OpPool})},
		api.ErrState: {by(2, 1), long(5, 1)[1:], {{}}, of(api.Op{Kind: api.OpPool, Prefix: api.Prefix{Addr: api.Addr{Lo: 1}, Bits: 31}})},
		api.ErrRange: {by(0), by(1, 1000), of(tick(1), tick(-1))},
		api.ErrKind:  {of(api.Op{}), of(tick(1), api.Op{Kind: 6})},
		api.ErrForm:  {of(api.Op{Kind: api.OpFree}), of(tick(1), api.Op{Kind: api.OpGrant, Who: "A", N: 9})},
	}
}

// with: a copy of a log, one entry of it changed.
func with(l []api.Entry, n int, change func(*api.Entry)) []api.Entry {
	l = slices.Clone(l)
	change(&l[n])
	return l
}

// laid: one list, and another one behind it.
func laid(a, b []api.Entry) []api.Entry {
	return append(slices.Clone(a), b...)
}

// short form of a log, as some are long.
func short(l []api.Entry) []api.Entry { return l[:min(len(l), api.MaxLog+1)] }

func nextIs(t *testing.T, have, l []api.Entry, many int, want []api.Entry) {
	t.Helper()
	if x, e := ship.Next(have, l, many); !slices.Equal(x, want) || e != api.OK {
		t.Errorf("Next of %v and %v, %d: %v %d, and must be %v", have, l, many, x, e, want)
	}
}

// nextFails: an error, with nothing beside it.
func nextFails(t *testing.T, have, l []api.Entry, many int, want api.Errno) {
	t.Helper()
	if x, e := ship.Next(have, l, many); len(x) != 0 || e != want {
		t.Errorf("Next of %v and %v, %d: %v %d, and must be nothing and %d", short(have), short(l), many, short(x), e, want)
	}
}

func takeIs(t *testing.T, have, more, want []api.Entry) {
	t.Helper()
	if x, e := ship.Take(have, more); !slices.Equal(x, want) || e != api.OK {
		t.Errorf("Take of %v and %v: %v %d, and must be %v", have, more, x, e, want)
	}
}

func takeFails(t *testing.T, have, more []api.Entry, want api.Errno) {
	t.Helper()
	if x, e := ship.Take(have, more); len(x) != 0 || e != want {
		t.Errorf("Take of %v and %v: %v %d, and must be nothing and %d", short(have), short(more), short(x), e, want)
	}
}

// draw numbers for what is asked at length, the same each time.
type draw uint64

func (d *draw) below(n int) int {
	*d = *d*6364136223846793005 + 1442695040888963407
	return int(uint64(*d) >> 33 % uint64(n))
}
