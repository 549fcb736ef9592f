package table_test

import (
	"math"
	"reflect"
	"slices"
	"testing"

	"yardarm/api"
	"yardarm/prefix"
	"yardarm/table"
)

func four(lo uint64, bits int) api.Prefix {
	return api.Prefix{Addr: api.Addr{Lo: lo}, Bits: bits}
}

func sixteen(hi, lo uint64, bits int) api.Prefix {
	return api.Prefix{Addr: api.Addr{V6: true, Hi: hi, Lo: lo}, Bits: bits}
}

// full is a table of as many prefixes as one may have, of both kinds.
func full() []api.Prefix {
	return []api.Prefix{
		four(0, 0),             // 0
		four(0, 8),             // 1
		four(0, 32),            // 2
		four(0x0a000000, 8),    // 3
		four(0x0a010000, 16),   // 4
		four(0x0a010200, 24),   // 5
		four(0x0a020000, 16),   // 6
		sixteen(0, 0, 64),      // 7
		sixteen(0, 1, 128),     // 8
		sixteen(2, 0, 63),      // 9
		sixteen(3, 0, 64),      // 10
		sixteen(3, 1<<63, 128), // 11
	}
}

// D1, P4: what Check says of tables, by examples; the limit holds far beyond it too.
func TestCheck(t *testing.T) {
	for _, c := range []struct {
		l    []api.Prefix
		want api.Errno
	}{
		{nil, api.OK},
		{[]api.Prefix{}, api.OK},
		{full(), api.OK},
		{[]api.Prefix{sixteen(0, 0, 0)}, api.OK},
		{append(full(), sixteen(4, 0, 64)), api.ErrMany},
		{make([]api.Prefix, api.MaxList+1), api.ErrMany},
		{make([]api.Prefix, 1<<20), api.ErrMany},
		{[]api.Prefix{four(1, 31)}, api.ErrState},
		{[]api.Prefix{four(0, 33)}, api.ErrRange},
		{[]api.Prefix{four(0, math.MinInt)}, api.ErrRange},
		{[]api.Prefix{{Addr: api.Addr{Hi: 1}}}, api.ErrRange},
		{[]api.Prefix{four(0, 8), four(0, 8)}, api.ErrTwice},
		{[]api.Prefix{sixteen(1, 0, 64), sixteen(1, 0, 64)}, api.ErrTwice},
		{make([]api.Prefix, api.MaxList), api.ErrTwice},
		{[]api.Prefix{four(0, 9), four(0, 8)}, api.ErrState},
		{[]api.Prefix{four(1, 32), four(0, 32)}, api.ErrState},
		{[]api.Prefix{four(1, 32), four(0, 0)}, api.ErrState},
		{[]api.Prefix{sixteen(0, 0, 0), four(0, 0)}, api.ErrState},
		{[]api.Prefix{sixteen(1, 0, 128), sixteen(0, 1, 128)}, api.ErrState},
		{[]api.Prefix{four(0, 8), four(0, 16), four(0, 8)}, api.ErrState},
		{[]api.Prefix{four(0, 0), sixteen(0, 0, 0)}, api.OK},
	} {
		if e := table.Check(c.l); e != c.want {
			t.Errorf("%d, from %v on: %d, and must be %d", len(c.l), c.l[:min(len(c.l), api.MaxList+1)], e, c.want)
		}
	}
}

// D1, P1: prefix by prefix: the first one of which something is wrong tells, and how many there are comes ahead of all.
func TestCheckOneByOne(t *testing.T) {
	wide, loose := four(0, 33), four(1, 31)
	for _, c := range []struct {
		l    []api.Prefix
		want api.Errno
	}{
		{[]api.Prefix{wide, loose}, api.ErrRange},
		{[]api.Prefix{loose, wide}, api.ErrState},
		{[]api.Prefix{four(0, 8), four(0, 8), wide}, api.ErrTwice},
		{[]api.Prefix{four(0, 8), four(0, 8), four(0, 7)}, api.ErrTwice},
		{[]api.Prefix{four(0, 8), four(0, 7), wide}, api.ErrState},
		{[]api.Prefix{four(0, 8), four(0, 7), four(0, 7)}, api.ErrState},
		{[]api.Prefix{four(0, 8), wide, wide}, api.ErrRange},
		{[]api.Prefix{sixteen(0, 0, 0), wide}, api.ErrRange},
		{[]api.Prefix{loose, loose}, api.ErrState},
		{append(make([]api.Prefix, api.MaxList), wide), api.ErrMany},
		{append([]api.Prefix{loose}, make([]api.Prefix, api.MaxList)...), api.ErrMany},
	} {
		if e := table.Check(c.l); e != c.want {
			t.Errorf("%v: %d, and must be %d", c.l, e, c.want)
		}
	}
}

// D1: the nearest prefix of an address, by examples: ends, what is beside them, both kinds.
func TestFind(t *testing.T) {
	for _, c := range []struct {
		l    []api.Prefix
		a    api.Addr
		want int
		e    api.Errno
	}{
		{full(), api.Addr{}, 2, api.OK},
		{full(), api.Addr{Lo: 1}, 1, api.OK},
		{full(), api.Addr{Lo: 0x00ffffff}, 1, api.OK},
		{full(), api.Addr{Lo: 0x01000000}, 0, api.OK},
		{full(), api.Addr{Lo: 0x0a000000}, 3, api.OK},
		{full(), api.Addr{Lo: 0x0a010000}, 4, api.OK},
		{full(), api.Addr{Lo: 0x0a0102ff}, 5, api.OK},
		{full(), api.Addr{Lo: 0x0a010300}, 4, api.OK},
		{full(), api.Addr{Lo: 0x0a02ffff}, 6, api.OK},
		{full(), api.Addr{Lo: 0x0a030000}, 3, api.OK},
		{full(), api.Addr{Lo: math.MaxUint32}, 0, api.OK},
		{full(), api.Addr{V6: true}, 7, api.OK},
		{full(), api.Addr{V6: true, Lo: 1}, 8, api.OK},
		{full(), api.Addr{V6: true, Lo: math.MaxUint64}, 7, api.OK},
		{full(), api.Addr{V6: true, Hi: 1}, 0, api.ErrNone},
		{full(), api.Addr{V6: true, Hi: 2, Lo: math.MaxUint64}, 9, api.OK},
		{full(), api.Addr{V6: true, Hi: 3}, 10, api.OK},
		{full(), api.Addr{V6: true, Hi: 3, Lo: 1 << 63}, 11, api.OK},
		{full(), api.Addr{V6: true, Hi: 4}, 0, api.ErrNone},
		{full(), api.Addr{Hi: 1}, 0, api.ErrRange},
		{full(), api.Addr{Lo: 1 << 32}, 0, api.ErrRange},
		{nil, api.Addr{}, 0, api.ErrNone},
		{nil, api.Addr{Hi: 1}, 0, api.ErrRange},
		{full()[7:], api.Addr{Lo: 1}, 0, api.ErrNone},
		{full()[:7], api.Addr{V6: true, Lo: 1}, 0, api.ErrNone},
	} {
		if n, e := table.Find(c.l, c.a); n != c.want || e != c.e {
			t.Errorf("%v in %v: %d %d, and must be %d %d", c.a, c.l, n, e, c.want, c.e)
		}
	}
}

// D1: what stands above and below each place of a table, by an example; -1 is none.
func TestAboveAndBelow(t *testing.T) {
	above := []int{-1, 0, 1, 0, 3, 4, 3, -1, 7, -1, 9, 10}
	below := [][]int{{1, 3}, {2}, nil, {4, 6}, {5}, nil, nil, {8}, nil, {10}, {11}, nil}
	for n := range full() {
		aboveIs(t, full(), n, above[n])
		if l, e := table.Below(full(), n); !slices.Equal(l, below[n]) || e != api.OK {
			t.Errorf("below %d: %v %d", n, l, e)
		}
	}
}

func aboveIs(t *testing.T, l []api.Prefix, n, want int) {
	t.Helper()
	wantErr := api.OK
	if want < 0 {
		want, wantErr = 0, api.ErrNone
	}
	if k, e := table.Above(l, n); k != want || e != wantErr {
		t.Fatalf("above %d of %v: %d %d, and must be %d %d", n, l, k, e, want, wantErr)
	}
}

// D1: what is no place is refused, also of an empty table.
func TestNoPlace(t *testing.T) {
	for _, l := range [][]api.Prefix{nil, {}, {four(0, 0)}, full()} {
		for _, n := range []int{-1, len(l), len(l) + 1, math.MinInt, math.MaxInt} {
			placeRefused(t, l, n, api.ErrRange)
		}
	}
}

func placeRefused(t *testing.T, l []api.Prefix, n int, want api.Errno) {
	t.Helper()
	if k, e := table.Above(l, n); k != 0 || e != want {
		t.Errorf("above %d of %v: %d %d, and must be %d", n, l, k, e, want)
	}
	if b, e := table.Below(l, n); len(b) != 0 || e != want {
		t.Errorf("below %d of %v: %v %d, and must be %d", n, l, b, e, want)
	}
}

// D1, P1: what Check says comes ahead of all else, with nothing beside it.
func TestErrorsOfCheck(t *testing.T) {
	for _, l := range [][]api.Prefix{
		{four(0, 33)},
		{four(1, 31)},
		{four(0, 0), four(0, 0)},
		{four(0, 1), four(0, 0)},
		{sixteen(0, 0, 0), four(0, 0)},
		make([]api.Prefix, api.MaxList+1),
	} {
		want := table.Check(l)
		if want == api.OK {
			t.Fatalf("%v is a table", l)
		}
		for _, a := range []api.Addr{{}, {Lo: 1}, {V6: true}, {Hi: 1}} {
			if n, e := table.Find(l, a); n != 0 || e != want {
				t.Errorf("%v in %v: %d %d, and must be %d", a, l, n, e, want)
			}
		}
		for n := -1; n <= len(l); n++ {
			placeRefused(t, l, n, want)
		}
	}
}

// draw numbers for tables that are long, the same each time.
type draw uint64

func (d *draw) below(n int) int {
	*d = *d*6364136223846793005 + 1442695040888963407
	return int(uint64(*d) >> 33 % uint64(n))
}

// tree: a prefix and all within it that have at most so many bits more, rising (B2), as halves rise.
func tree(t *testing.T, p api.Prefix, deep int) []api.Prefix {
	t.Helper()
	if deep == 0 {
		return []api.Prefix{p}
	}
	x, y, e := prefix.Halves(p)
	if e != api.OK {
		t.Fatalf("Halves of %v: %d", p, e)
	}
	return slices.Concat([]api.Prefix{p}, tree(t, x, deep-1), tree(t, y, deep-1))
}

// D1, D2: many tables: places by what the document says, one by one, not by where they stand.
func TestManyTables(t *testing.T) {
	all := slices.Concat(tree(t, four(0, 0), 3), tree(t, four(math.MaxUint32-3, 30), 2), tree(t, sixteen(0, 0, 0), 2), tree(t, sixteen(1<<64-4, 0, 62), 3))
	var d draw
	for range 500 {
		many := d.below(api.MaxList + 1)
		var l []api.Prefix
		for i, p := range all {
			if d.below(len(all)-i) < many-len(l) {
				l = append(l, p)
			}
		}
		if e := table.Check(l); e != api.OK {
			t.Fatalf("%v: %d", l, e)
		}
		for n := range l {
			aboveIs(t, l, n, most(t, l, l[n], n))
		}
		for _, p := range all {
			first, last, _ := prefix.Ends(p)
			foundIs(t, l, first)
			foundIs(t, l, last)
		}
		eachOnce(t, l)
	}
}

// most: the place of the prefix with the most Bits that has p, other than that at place but; -1, if there is none.
func most(t *testing.T, l []api.Prefix, p api.Prefix, but int) int {
	t.Helper()
	best := -1
	for i, q := range l {
		has, e := prefix.Has(q, p)
		if e != api.OK {
			t.Fatalf("Has of %v and %v: %d", q, p, e)
		}
		if has && i != but && (best < 0 || q.Bits > l[best].Bits) {
			best = i
		}
	}
	return best
}

// foundIs: what is found has the address, and all else that has it stands above that (D2).
func foundIs(t *testing.T, l []api.Prefix, a api.Addr) {
	t.Helper()
	one := api.Prefix{Addr: a, Bits: 32}
	if a.V6 {
		one.Bits = 128
	}
	want, wantErr := most(t, l, one, -1), api.OK
	if want < 0 {
		want, wantErr = 0, api.ErrNone
	}
	n, e := table.Find(l, a)
	if n != want || e != wantErr {
		t.Fatalf("%v in %v: %d %d, and must be %d %d", a, l, n, e, want, wantErr)
	}
	if e != api.OK {
		return
	}
	above := []int{n}
	for k, f := table.Above(l, n); f == api.OK; k, f = table.Above(l, k) {
		above = append(above, k)
	}
	for i, p := range l {
		if has, _ := prefix.Has(p, one); has != slices.Contains(above, i) {
			t.Fatalf("%v in %v: place %d, and above it %v", a, l, n, above)
		}
	}
}

// eachOnce: a place stands below the one above it, once, and nowhere else; what stands below rises (D2).
func eachOnce(t *testing.T, l []api.Prefix) {
	t.Helper()
	met := make([]int, len(l))
	for n := range l {
		below, e := table.Below(l, n)
		if e != api.OK || !slices.IsSorted(below) {
			t.Fatalf("below %d of %v: %v %d", n, l, below, e)
		}
		for _, i := range below {
			met[i]++
			aboveIs(t, l, i, n)
		}
	}
	for i, times := range met {
		want := 1
		if _, e := table.Above(l, i); e == api.ErrNone {
			want = 0
		}
		if times != want {
			t.Fatalf("place %d of %v stands below %d of them", i, l, times)
		}
	}
}

// P2, P3: a table is only read, the room behind it too; an answer is the caller's, and is the same each time.
func TestOnlyRead(t *testing.T) {
	room := append(full()[:7:7], four(1, 31), four(0, 99))
	was := slices.Clone(room)
	l := room[:7]
	ask := func() []any {
		var out []any
		for n := range l {
			k, e := table.Above(l, n)
			b, f := table.Below(l, n)
			out = append(out, k, e, b, f)
		}
		n, e := table.Find(l, api.Addr{Lo: 0x0a010203})
		return append(out, table.Check(l), n, e)
	}
	first, again := ask(), ask()
	if !reflect.DeepEqual(first, again) {
		t.Errorf("%v, and then %v", first, again)
	}
	for _, x := range first {
		if b, ok := x.([]int); ok {
			clear(b[:cap(b)])
		}
	}
	if third := ask(); !reflect.DeepEqual(third, again) {
		t.Errorf("%v, and then %v", again, third)
	}
	if !slices.Equal(room, was) {
		t.Errorf("%v was %v", room, was)
	}
}
