package log_test

import (
	"slices"
	"testing"

	"yardarm/api"
	"yardarm/log"
)

func four(lo uint64) api.Addr { return api.Addr{Lo: lo} }

func sixteen(hi, lo uint64) api.Addr { return api.Addr{V6: true, Hi: hi, Lo: lo} }

func prefix(a api.Addr, bits int) api.Prefix { return api.Prefix{Addr: a, Bits: bits} }

// nowhere is the address of ops that tell none, and of those that have an error.
var nowhere api.Addr

func addPool(a api.Addr, bits int) api.Op {
	return api.Op{Kind: api.OpPool, Prefix: prefix(a, bits)}
}

func keep(a api.Addr) api.Op { return api.Op{Kind: api.OpKeep, Addr: a} }

func grant(who string, of, n int) api.Op {
	return api.Op{Kind: api.OpGrant, Who: who, Of: of, N: n}
}

func free(who string) api.Op { return api.Op{Kind: api.OpFree, Who: who} }

func tick(n int) api.Op { return api.Op{Kind: api.OpTick, N: n} }

// held: an address, who has it, till when.
func held(a api.Addr, who string, until int) api.Lease {
	return api.Lease{Addr: a, Who: who, Until: until}
}

// of: a log of ops, all of one epoch.
func of(ops ...api.Op) []api.Entry {
	var l []api.Entry
	for i, o := range ops {
		l = append(l, api.Entry{Number: i + 1, Epoch: 1, Op: o})
	}
	return l
}

// by: a log of entries of these epochs, whose ops are right.
func by(epochs ...int) []api.Entry {
	var l []api.Entry
	for i, n := range epochs {
		l = append(l, api.Entry{Number: i + 1, Epoch: n, Op: tick(i)})
	}
	return l
}

// long: a log of so many entries, all of one epoch.
func long(n, epoch int) []api.Entry {
	return by(slices.Repeat([]int{epoch}, n)...)
}

// mixed: a log with ops of all kinds, of which some have an error when they are done.
func mixed() []api.Entry {
	l := of(grant("ann", 0, 5), addPool(four(8), 30), keep(four(8)), grant("ann", 0, 5), addPool(four(8), 31), tick(3), grant("ann", 0, 5), grant("bob", 0, 2), free("cy"), tick(2), addPool(sixteen(2, 0), 126), grant("bob", 1, 5), grant("cy", 1, 500), tick(6), free("ann"))
	for i, n := range []int{1, 1, 1, 2, 2, 2, 2, 7, 7, 7, 998, 998, 999, 999, 999} {
		l[i].Epoch = n
	}
	return l
}

// good logs, of as few and of as many entries as there may be, of the least and of the greatest epochs.
func good() [][]api.Entry {
	up := long(30, 1)
	for i := range up {
		up[i].Epoch += i
	}
	return [][]api.Entry{nil, {}, by(1), by(999), by(1, 1), by(1, 999), by(999, 999), by(1, 2, 2, 5, 998), mixed(), long(29, 3), long(30, 1), long(30, 999), up}
}

// wrongOps by what Form says of them.
func wrongOps() map[api.Errno][]api.Op {
	return map[api.Errno][]api.Op{
		api.ErrKind:  {{}, {Kind: 6}, {Kind: -1, N: 4}},
		api.ErrForm:  {{Kind: api.OpTick, N: 9, Who: "a"}, grant("", 0, 5), grant("A", 0, 5), free(""), free("abcdefghi")},
		api.ErrRange: {tick(-1), tick(10000), grant("a", 3, 5), grant("a", 0, 501), keep(api.Addr{Hi: 1}), addPool(four(0), 33)},
		api.ErrState: {addPool(four(1), 31)},
		api.ErrMany:  {addPool(four(0), 27)},
	}
}

// with: a copy of a log, one entry of it changed.
func with(l []api.Entry, n int, change func(*api.Entry)) []api.Entry {
	l = slices.Clone(l)
	change(&l[n])
	return l
}

// likeState: are two states one, lists without elements being one too?
func likeState(a, b api.State) bool {
	pools := slices.EqualFunc(a.Pools, b.Pools, func(p, q api.Pool) bool {
		return p.Prefix == q.Prefix && slices.Equal(p.Kept, q.Kept)
	})
	return pools && slices.Equal(a.Leases, b.Leases) && a.Now == b.Now
}

// short form of a log, as some are long.
func short(l []api.Entry) []api.Entry { return l[:min(len(l), api.MaxLog+1)] }

func checkIs(t *testing.T, l []api.Entry, want api.Errno) {
	t.Helper()
	if e := log.Check(l); e != want {
		t.Errorf("Check of %v: %d, and must be %d", short(l), e, want)
	}
}

// addIs: the log with one more entry, which is right then.
func addIs(t *testing.T, l []api.Entry, epoch int, o api.Op) {
	t.Helper()
	want := append(slices.Clone(l), api.Entry{Number: len(l) + 1, Epoch: epoch, Op: o})
	if x, e := log.Add(l, epoch, o); !slices.Equal(x, want) || e != api.OK {
		t.Errorf("Add of %d %v to %v: %v %d, and must be %v", epoch, o, l, x, e, want)
	}
	checkIs(t, want, api.OK)
}

// addFails: an error, with nothing beside it.
func addFails(t *testing.T, l []api.Entry, epoch int, o api.Op, want api.Errno) {
	t.Helper()
	if x, e := log.Add(l, epoch, o); len(x) != 0 || e != want {
		t.Errorf("Add of %d %v to %v: %v %d, and must be nothing and %d", epoch, o, short(l), x, e, want)
	}
}

func replayIs(t *testing.T, l []api.Entry, want api.State, told ...api.Addr) {
	t.Helper()
	if s, a, e := log.Replay(l); !likeState(s, want) || !slices.Equal(a, told) || e != api.OK {
		t.Errorf("Replay of %v: %v %v %d, and must be %v %v", l, s, a, e, want, told)
	}
}

func replayFails(t *testing.T, l []api.Entry, want api.Errno) {
	t.Helper()
	if s, a, e := log.Replay(l); !likeState(s, api.State{}) || len(a) != 0 || e != want {
		t.Errorf("Replay of %v: %v %v %d, and must be nothing and %d", short(l), s, a, e, want)
	}
}

func beginsIs(t *testing.T, a, b []api.Entry, want bool, why api.Errno) {
	t.Helper()
	if ok, e := log.Begins(a, b); ok != want || e != why {
		t.Errorf("Begins of %v and %v: %v %d, and must be %v %d", short(a), short(b), ok, e, want, why)
	}
}

// draw numbers for what is asked at length, the same each time.
type draw uint64

func (d *draw) below(n int) int {
	*d = *d*6364136223846793005 + 1442695040888963407
	return int(uint64(*d) >> 33 % uint64(n))
}
