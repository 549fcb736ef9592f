package fence_test

import (
	"slices"
	"testing"

	"yardarm/api"
	"yardarm/fence"
)

func tick(n int) api.Op { return api.Op{Kind: api.OpTick, N: n} }

// by: a log of entries of these epochs, whose ops are right.
func by(epochs ...int) []api.Entry {
	var l []api.Entry
	for i, n := range epochs {
		l = append(l, api.Entry{Number: i + 1, Epoch: n, Op: tick(i)})
	}
	return l
}

// long: a log of so many entries, all of one epoch.
func long(n, epoch int) []api.Entry {
	return by(slices.Repeat([]int{epoch}, n)...)
}

// of: a log of one op.
func of(o api.Op) []api.Entry { return []api.Entry{{Number: 1, Epoch: 1, Op: o}} }

// disk: its epoch, who holds the lock, till when, its log.
func disk(epoch, holder, until int, l []api.Entry) api.Disk {
	return api.Disk{Epoch: epoch, Lock: api.Lock{Holder: holder, Until: until}, Log: l}
}

// good disks.
func good() []api.Disk {
	return []api.Disk{
		{}, {Log: []api.Entry{}},
		disk(1, 1, 0, nil), disk(1, 2, 10, nil), disk(999, 1, 10009, nil), disk(999, 2, 0, []api.Entry{}),
		disk(1, 1, 10, by(1)), disk(2, 2, 20, by(1, 1, 2)), disk(7, 1, 20, by(1, 3, 3)), disk(999, 2, 9999, by(1, 998, 999)),
		disk(5, 2, 30, long(30, 5)), disk(5, 2, 30, long(29, 4)), disk(999, 1, 5, long(30, 1)),
	}
}

// wrongOps by what Form says of them.
func wrongOps() map[api.Errno][]api.Op {
	return map[api.Errno][]api.Op{
		api.ErrKind:  {{}, {Kind: 6}, {Kind: -1, N: 4}},
		api.ErrForm:  {{Kind: api.OpTick, N: 9, Who: "a"}, {Kind: api.OpFree}, {Kind: api.OpGrant, Who: "A", N: 5}},
		api.ErrRange: {tick(-1), tick(10000), {Kind: api.OpGrant, Who: "a", Of: 3, N: 5}},
		api.ErrState: {{Kind: api.OpPool, Prefix: api.Prefix{Addr: api.Addr{Lo: 1}, Bits: 31}}},
		api.ErrMany:  {{Kind: api.OpPool}},
	}
}

// like: are two disks one, lists without elements being one too?
func like(a, b api.Disk) bool {
	return a.Epoch == b.Epoch && a.Lock == b.Lock && slices.Equal(a.Log, b.Log)
}

// short form of a disk, as some have logs that are long.
func short(d api.Disk) api.Disk {
	d.Log = d.Log[:min(len(d.Log), api.MaxLog+1)]
	return d
}

func checkIs(t *testing.T, d api.Disk, want api.Errno) {
	t.Helper()
	if e := fence.Check(d); e != want {
		t.Errorf("Check of %v: %d, and must be %d", short(d), e, want)
	}
}

// acquireIs: the disk then, which is right, and its epoch.
func acquireIs(t *testing.T, d api.Disk, who, now int, want api.Disk) {
	t.Helper()
	if x, n, e := fence.Acquire(d, who, now); !like(x, want) || n != want.Epoch || e != api.OK {
		t.Errorf("Acquire of %v by %d at %d: %v %d %d, and must be %v", d, who, now, x, n, e, want)
	}
	checkIs(t, want, api.OK)
}

// acquireFails: an error, with nothing beside it.
func acquireFails(t *testing.T, d api.Disk, who, now int, want api.Errno) {
	t.Helper()
	if x, n, e := fence.Acquire(d, who, now); !like(x, api.Disk{}) || n != 0 || e != want {
		t.Errorf("Acquire of %v by %d at %d: %v %d %d, and must be nothing and %d", short(d), who, now, x, n, e, want)
	}
}

// writeIs: the disk with one more entry, of that epoch; it is right then.
func writeIs(t *testing.T, d api.Disk, epoch int, o api.Op) {
	t.Helper()
	want := d
	want.Log = append(slices.Clone(d.Log), api.Entry{Number: len(d.Log) + 1, Epoch: epoch, Op: o})
	if x, e := fence.Write(d, epoch, o); !like(x, want) || e != api.OK {
		t.Errorf("Write of %d %v to %v: %v %d, and must be %v", epoch, o, d, x, e, want)
	}
	checkIs(t, want, api.OK)
}

func writeFails(t *testing.T, d api.Disk, epoch int, o api.Op, want api.Errno) {
	t.Helper()
	if x, e := fence.Write(d, epoch, o); !like(x, api.Disk{}) || e != want {
		t.Errorf("Write of %d %v to %v: %v %d, and must be nothing and %d", epoch, o, short(d), x, e, want)
	}
}

// draw numbers for what is asked at length, the same each time.
type draw uint64

func (d *draw) below(n int) int {
	*d = *d*6364136223846793005 + 1442695040888963407
	return int(uint64(*d) >> 33 % uint64(n))
}
