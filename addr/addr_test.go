package addr_test

import (
	"math"
	"testing"

	"yardarm/addr"
	"yardarm/api"
)

// rising addresses, all right, those of either kind at the edges.
func rising() []api.Addr {
	return []api.Addr{
		{}, {Lo: 1}, {Lo: 255}, {Lo: 256}, {Lo: 1 << 31}, {Lo: math.MaxUint32 - 1}, {Lo: math.MaxUint32},
		{V6: true}, {V6: true, Lo: 1}, {V6: true, Lo: math.MaxUint32}, {V6: true, Lo: 1 << 32}, {V6: true, Lo: 1 << 63}, {V6: true, Lo: math.MaxUint64},
		{V6: true, Hi: 1}, {V6: true, Hi: 1, Lo: math.MaxUint64}, {V6: true, Hi: 2}, {V6: true, Hi: 1 << 63},
		{V6: true, Hi: math.MaxUint64}, {V6: true, Hi: math.MaxUint64, Lo: math.MaxUint64 - 1}, {V6: true, Hi: math.MaxUint64, Lo: math.MaxUint64},
	}
}

// wrong addresses: of four bytes, and greater than those are.
func wrong() []api.Addr {
	return []api.Addr{{Lo: math.MaxUint32 + 1}, {Lo: math.MaxUint64}, {Hi: 1}, {Hi: math.MaxUint64, Lo: 1}, {Hi: 1, Lo: 1 << 32}}
}

// A1: what Check says.
func TestCheck(t *testing.T) {
	for _, a := range rising() {
		if e := addr.Check(a); e != api.OK {
			t.Errorf("%v: %d", a, e)
		}
	}
	for _, a := range wrong() {
		if e := addr.Check(a); e != api.ErrRange {
			t.Errorf("%v: %d, and it is out of range", a, e)
		}
	}
}

// A1, A3, P1: the errors of Check come from all other calls, with nothing beside them.
func TestErrorsOfCheck(t *testing.T) {
	for _, a := range wrong() {
		if s, e := addr.Print(a); s != "" || e != api.ErrRange {
			t.Errorf("Print of %v: %q %d", a, s, e)
		}
		if n, ok, e := addr.Next(a); n != (api.Addr{}) || ok || e != api.ErrRange {
			t.Errorf("Next of %v: %v %v %d", a, n, ok, e)
		}
		for _, b := range append(rising(), wrong()...) {
			if less, e := addr.Less(a, b); less || e != api.ErrRange {
				t.Errorf("Less of %v and %v: %v %d", a, b, less, e)
			}
			if less, e := addr.Less(b, a); less || e != api.ErrRange {
				t.Errorf("Less of %v and %v: %v %d", b, a, less, e)
			}
		}
	}
}

// A3: one stands ahead of another one as they do in a list that rises.
func TestLess(t *testing.T) {
	l := rising()
	for i, a := range l {
		for j, b := range l {
			if less, e := addr.Less(a, b); less != (i < j) || e != api.OK {
				t.Errorf("Less of %v and %v: %v %d", a, b, less, e)
			}
		}
	}
}

// A3: the next one, over the edge of a half, and at the end of a kind.
func TestNext(t *testing.T) {
	for _, c := range []struct {
		a, next api.Addr
		ok      bool
	}{
		{api.Addr{}, api.Addr{Lo: 1}, true},
		{api.Addr{Lo: 255}, api.Addr{Lo: 256}, true},
		{api.Addr{Lo: math.MaxUint32 - 1}, api.Addr{Lo: math.MaxUint32}, true},
		{api.Addr{Lo: math.MaxUint32}, api.Addr{}, false},
		{api.Addr{V6: true}, api.Addr{V6: true, Lo: 1}, true},
		{api.Addr{V6: true, Lo: math.MaxUint32}, api.Addr{V6: true, Lo: 1 << 32}, true},
		{api.Addr{V6: true, Lo: math.MaxUint64}, api.Addr{V6: true, Hi: 1}, true},
		{api.Addr{V6: true, Hi: 7, Lo: math.MaxUint64}, api.Addr{V6: true, Hi: 8}, true},
		{api.Addr{V6: true, Hi: math.MaxUint64, Lo: math.MaxUint64 - 1}, api.Addr{V6: true, Hi: math.MaxUint64, Lo: math.MaxUint64}, true},
		{api.Addr{V6: true, Hi: math.MaxUint64, Lo: math.MaxUint64}, api.Addr{}, false},
	} {
		if n, ok, e := addr.Next(c.a); n != c.next || ok != c.ok || e != api.OK {
			t.Errorf("Next of %v: %v %v %d", c.a, n, ok, e)
		}
	}
}

// A3: nothing of its kind stands between an address and the next one.
func TestNextStandsBehind(t *testing.T) {
	l := rising()
	for i, a := range l {
		n, ok, _ := addr.Next(a)
		if !ok {
			continue
		}
		if less, _ := addr.Less(a, n); !less {
			t.Errorf("%v does not stand ahead of its next one, %v", a, n)
		}
		for _, b := range l[i+1:] {
			if less, _ := addr.Less(b, n); less {
				t.Errorf("%v stands between %v and %v", b, a, n)
			}
		}
	}
}
