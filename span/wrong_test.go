package span_test

import (
	"math"
	"reflect"
	"slices"
	"testing"

	"yardarm/api"
	"yardarm/span"
)

// refuses: all three calls answer an error, and nothing beside it (P1).
func refuses(t *testing.T, l []api.Prefix, p api.Prefix, a api.Addr, norm, minus, has api.Errno) {
	t.Helper()
	shown := l[:min(len(l), api.MaxList+1)]
	if n, e := span.Norm(l); e != norm || norm != api.OK && len(n) != 0 {
		t.Errorf("Norm of %v: %v %d, and must be %d", shown, n, e, norm)
	}
	if n, e := span.Minus(l, p); len(n) != 0 || e != minus {
		t.Errorf("%v minus %v: %v %d, and must be %d", shown, p, n, e, minus)
	}
	if ok, e := span.Has(l, a); ok || e != has {
		t.Errorf("Has of %v, %v: %v %d, and must be %d", shown, a, ok, e, has)
	}
}

// C1, P1, P4: how many comes first (far beyond the limit too), then the first prefix that is wrong, then what is asked for.
func TestErrors(t *testing.T) {
	good, wide, loose := four(0, 0), four(0, 33), four(1, 31)
	noAddr := api.Addr{Hi: 1}
	many := slices.Repeat([]api.Prefix{good}, api.MaxList+1)
	refuses(t, many, good, api.Addr{}, api.ErrMany, api.ErrMany, api.ErrMany)
	refuses(t, make([]api.Prefix, 1<<20), good, api.Addr{}, api.ErrMany, api.ErrMany, api.ErrMany)
	many[0] = loose
	refuses(t, many, wide, noAddr, api.ErrMany, api.ErrMany, api.ErrMany)
	for _, c := range []struct {
		l    []api.Prefix
		want api.Errno
	}{
		{[]api.Prefix{wide}, api.ErrRange},
		{[]api.Prefix{loose}, api.ErrState},
		{[]api.Prefix{good, wide, loose}, api.ErrRange},
		{[]api.Prefix{good, loose, wide}, api.ErrState},
		{[]api.Prefix{{Addr: noAddr, Bits: -1}}, api.ErrRange},
		{[]api.Prefix{four(0, math.MinInt)}, api.ErrRange},
		{[]api.Prefix{sixteen(0, 0, math.MaxInt)}, api.ErrRange},
		{[]api.Prefix{sixteen(0, 1, 127)}, api.ErrState},
		{append(slices.Repeat([]api.Prefix{good}, api.MaxList-1), loose), api.ErrState},
	} {
		refuses(t, c.l, good, api.Addr{}, c.want, c.want, c.want)
		refuses(t, c.l, wide, noAddr, c.want, c.want, c.want)
		refuses(t, c.l, loose, noAddr, c.want, c.want, c.want)
	}
	for _, l := range [][]api.Prefix{nil, {good}, many[1:]} {
		refuses(t, l, wide, noAddr, api.OK, api.ErrRange, api.ErrRange)
		refuses(t, l, loose, api.Addr{Lo: 1 << 32}, api.OK, api.ErrState, api.ErrRange)
		refuses(t, l, api.Prefix{Addr: noAddr}, noAddr, api.OK, api.ErrRange, api.ErrRange)
	}
}

// P2, P3: a list is only read, the room behind it too; an answer is the caller's, and is the same each time.
func TestOnlyRead(t *testing.T) {
	room := []api.Prefix{four(6, 31), four(0, 32), four(4, 31), four(1, 32), four(77, 32), four(78, 32)}
	was := slices.Clone(room)
	l := room[:4]
	ask := func() [][]api.Prefix {
		n, _ := span.Norm(l)
		m, _ := span.Minus(l, four(5, 32))
		same, _ := span.Minus(l[:1], four(5, 32))
		one, _ := span.Norm(l[:1])
		span.Has(l, api.Addr{Lo: 1})
		return [][]api.Prefix{n, m, same, one}
	}
	first := ask()
	if !slices.Equal(room, was) {
		t.Fatalf("%v was %v", room, was)
	}
	again := ask()
	if !reflect.DeepEqual(first, again) {
		t.Errorf("%v, and then %v", first, again)
	}
	for _, answer := range first {
		clear(answer[:cap(answer)])
	}
	if !slices.Equal(room, was) {
		t.Errorf("an answer shares memory with the list: %v was %v", room, was)
	}
	if third := ask(); !reflect.DeepEqual(third, again) {
		t.Errorf("%v, and then %v", again, third)
	}
	kept := slices.Clone(again[0])
	clear(room)
	if !slices.Equal(again[0], kept) {
		t.Errorf("an answer changes with the list: %v was %v", again[0], kept)
	}
}
