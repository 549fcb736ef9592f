package prefix_test

import (
	"math"
	"slices"
	"testing"

	"yardarm/addr"
	"yardarm/api"
	"yardarm/prefix"
)

func four(lo uint64, bits int) api.Prefix {
	return api.Prefix{Addr: api.Addr{Lo: lo}, Bits: bits}
}

func sixteen(hi, lo uint64, bits int) api.Prefix {
	return api.Prefix{Addr: api.Addr{V6: true, Hi: hi, Lo: lo}, Bits: bits}
}

// nothing is the prefix that stands beside an error.
var nothing api.Prefix

// some prefixes that are right: of every width, at the first address, at the last one, and at one between.
func some() []api.Prefix {
	var l []api.Prefix
	for n := range 33 {
		all := uint64(math.MaxUint32) << (32 - n) & math.MaxUint32
		for _, lo := range []uint64{0, math.MaxUint32, 0x0a5a3c99} {
			l = append(l, four(lo&all, n))
		}
	}
	for n := range 129 {
		var hi, lo uint64 = math.MaxUint64, 0
		if n < 64 {
			hi = math.MaxUint64 << (64 - n)
		} else {
			lo = math.MaxUint64 << (128 - n)
		}
		for _, a := range []api.Addr{{}, {Hi: math.MaxUint64, Lo: math.MaxUint64}, {Hi: 0x20010db85a3c9981, Lo: 0x123456789abcdef1}} {
			l = append(l, sixteen(a.Hi&hi, a.Lo&lo, n))
		}
	}
	return l
}

// faults: prefixes of which something is wrong, and what it is.
func faults() map[api.Prefix]api.Errno {
	return map[api.Prefix]api.Errno{
		four(1<<32, 0):             api.ErrRange,
		four(1<<32, 33):            api.ErrRange,
		{Addr: api.Addr{Hi: 1}}:    api.ErrRange,
		four(0, -1):                api.ErrRange,
		four(0, 33):                api.ErrRange,
		four(1, 33):                api.ErrRange,
		four(1, -1):                api.ErrRange,
		four(0, 128):               api.ErrRange,
		four(0, math.MinInt):       api.ErrRange,
		four(0, math.MaxInt):       api.ErrRange,
		sixteen(0, 0, -1):          api.ErrRange,
		sixteen(0, 0, 129):         api.ErrRange,
		sixteen(1, 1, 129):         api.ErrRange,
		sixteen(0, 0, math.MinInt): api.ErrRange,
		sixteen(0, 0, math.MaxInt): api.ErrRange,
		four(1, 31):                api.ErrState,
		four(1, 0):                 api.ErrState,
		four(1<<31, 0):             api.ErrState,
		four(0x0a000000, 6):        api.ErrState,
		sixteen(0, 1, 127):         api.ErrState,
		sixteen(0, 1, 0):           api.ErrState,
		sixteen(0, 1<<63, 64):      api.ErrState,
		sixteen(1, 0, 63):          api.ErrState,
		sixteen(1<<63, 0, 0):       api.ErrState,
		sixteen(1, 1, 64):          api.ErrState,
	}
}

// B1: what Check says.
func TestCheck(t *testing.T) {
	for _, p := range some() {
		if e := prefix.Check(p); e != api.OK {
			t.Errorf("%v: %d", p, e)
		}
	}
	for p, want := range faults() {
		if e := prefix.Check(p); e != want {
			t.Errorf("%v: %d, and must be %d", p, e, want)
		}
	}
}

// B1: every single bit behind the first ones is told.
func TestCheckEveryBit(t *testing.T) {
	for bits := range 33 {
		for n := range 32 {
			e := prefix.Check(four(1<<(31-n), bits))
			if n < bits && e != api.OK || n >= bits && e != api.ErrState {
				t.Errorf("bit %d of a prefix of %d bits: %d", n, bits, e)
			}
		}
	}
	for bits := range 129 {
		for n := range 128 {
			p := sixteen(0, 0, bits)
			if n < 64 {
				p.Addr.Hi = 1 << (63 - n)
			} else {
				p.Addr.Lo = 1 << (127 - n)
			}
			e := prefix.Check(p)
			if n < bits && e != api.OK || n >= bits && e != api.ErrState {
				t.Errorf("bit %d of a long prefix of %d bits: %d", n, bits, e)
			}
		}
	}
}

// B1, P1: the errors of Check come first from all other calls, those of p ahead of those of q, with nothing beside them.
func TestErrorsOfCheck(t *testing.T) {
	for p, want := range faults() {
		if s, e := prefix.Print(p); s != "" || e != want {
			t.Errorf("Print of %v: %q %d", p, s, e)
		}
		if a, b, e := prefix.Ends(p); a != (api.Addr{}) || b != (api.Addr{}) || e != want {
			t.Errorf("Ends of %v: %v %v %d", p, a, b, e)
		}
		if x, y, e := prefix.Halves(p); x != nothing || y != nothing || e != want {
			t.Errorf("Halves of %v: %v %v %d", p, x, y, e)
		}
		for _, q := range some() {
			refusesBoth(t, p, q, want)
			refusesBoth(t, q, p, want)
		}
		for q := range faults() {
			refusesBoth(t, p, q, want)
		}
	}
}

func refusesBoth(t *testing.T, p, q api.Prefix, want api.Errno) {
	t.Helper()
	if has, e := prefix.Has(p, q); has || e != want {
		t.Errorf("Has of %v and %v: %v %d, and must be %d", p, q, has, e, want)
	}
	if w, e := prefix.Whole(p, q); w != nothing || e != want {
		t.Errorf("Whole of %v and %v: %v %d, and must be %d", p, q, w, e, want)
	}
}

// B1: the first and the last address, by examples.
func TestEnds(t *testing.T) {
	for _, c := range []struct {
		p    api.Prefix
		last api.Addr
	}{
		{four(0, 0), api.Addr{Lo: math.MaxUint32}},
		{four(0x0a000000, 8), api.Addr{Lo: 0x0affffff}},
		{four(0x0a000008, 30), api.Addr{Lo: 0x0a00000b}},
		{four(math.MaxUint32, 32), api.Addr{Lo: math.MaxUint32}},
		{four(7, 32), api.Addr{Lo: 7}},
		{sixteen(0, 0, 0), api.Addr{V6: true, Hi: math.MaxUint64, Lo: math.MaxUint64}},
		{sixteen(1<<63, 0, 1), api.Addr{V6: true, Hi: math.MaxUint64, Lo: math.MaxUint64}},
		{sixteen(2, 0, 63), api.Addr{V6: true, Hi: 3, Lo: math.MaxUint64}},
		{sixteen(1, 0, 64), api.Addr{V6: true, Hi: 1, Lo: math.MaxUint64}},
		{sixteen(1, 1<<63, 65), api.Addr{V6: true, Hi: 1, Lo: math.MaxUint64}},
		{sixteen(0, 8, 125), api.Addr{V6: true, Lo: 15}},
		{sixteen(5, 6, 128), api.Addr{V6: true, Hi: 5, Lo: 6}},
	} {
		if a, b, e := prefix.Ends(c.p); a != c.p.Addr || b != c.last || e != api.OK {
			t.Errorf("Ends of %v: %v %v %d", c.p, a, b, e)
		}
	}
}

// B1: halves, by examples; one address has none.
func TestHalves(t *testing.T) {
	for _, c := range [][3]api.Prefix{
		{four(0, 0), four(0, 1), four(1<<31, 1)},
		{four(0x0a000000, 8), four(0x0a000000, 9), four(0x0a800000, 9)},
		{four(math.MaxUint32-1, 31), four(math.MaxUint32-1, 32), four(math.MaxUint32, 32)},
		{sixteen(0, 0, 0), sixteen(0, 0, 1), sixteen(1<<63, 0, 1)},
		{sixteen(2, 0, 63), sixteen(2, 0, 64), sixteen(3, 0, 64)},
		{sixteen(2, 0, 64), sixteen(2, 0, 65), sixteen(2, 1<<63, 65)},
		{sixteen(0, 8, 125), sixteen(0, 8, 126), sixteen(0, 12, 126)},
		{sixteen(9, 6, 127), sixteen(9, 6, 128), sixteen(9, 7, 128)},
	} {
		if x, y, e := prefix.Halves(c[0]); x != c[1] || y != c[2] || e != api.OK {
			t.Errorf("Halves of %v: %v %v %d", c[0], x, y, e)
		}
	}
	for _, p := range []api.Prefix{four(0, 32), four(math.MaxUint32, 32), sixteen(0, 0, 128), sixteen(math.MaxUint64, math.MaxUint64, 128)} {
		if x, y, e := prefix.Halves(p); x != nothing || y != nothing || e != api.ErrNone {
			t.Errorf("Halves of %v: %v %v %d", p, x, y, e)
		}
	}
}

// B1: halves begin and end where the whole does, meet, and make it again.
func TestHalvesMakeTheWhole(t *testing.T) {
	for _, p := range some() {
		x, y, e := prefix.Halves(p)
		if e != api.OK {
			continue
		}
		first, last, _ := prefix.Ends(p)
		a, b, _ := prefix.Ends(x)
		c, d, _ := prefix.Ends(y)
		if next, ok, _ := addr.Next(b); a != first || !ok || next != c || d != last {
			t.Errorf("%v is from %v to %v, its halves from %v to %v, and from %v to %v", p, first, last, a, b, c, d)
		}
		if w, e := prefix.Whole(x, y); w != p || e != api.OK {
			t.Errorf("Whole of %v and %v: %v %d", x, y, w, e)
		}
	}
}

// B1: what are no halves, or not in their order, have no whole.
func TestWholeIsNone(t *testing.T) {
	l := some()
	for _, p := range l {
		for _, q := range l {
			w, e := prefix.Whole(p, q)
			if e == api.OK {
				if x, y, f := prefix.Halves(w); x != p || y != q || f != api.OK {
					t.Errorf("Whole of %v and %v: %v, whose halves they are not", p, q, w)
				}
			} else if w != nothing || e != api.ErrState {
				t.Errorf("Whole of %v and %v: %v %d", p, q, w, e)
			}
		}
	}
	for _, c := range [][2]api.Prefix{
		{four(0, 0), four(0, 0)},
		{sixteen(0, 0, 0), sixteen(0, 0, 0)},
		{four(1<<31, 1), four(0, 1)},
		{four(0, 1), four(0, 1)},
		{four(0, 1), four(1<<31, 2)},
		{four(4, 31), four(6, 32)},
		{four(6, 31), four(8, 31)},
		{four(4, 31), four(12, 31)},
		{four(0, 32), sixteen(0, 1, 128)},
		{sixteen(0, 0, 32), four(1, 32)},
		{sixteen(1, 0, 64), sixteen(2, 0, 64)},
		{sixteen(0, 0, 64), sixteen(1, 0, 65)},
	} {
		if w, e := prefix.Whole(c[0], c[1]); w != nothing || e != api.ErrState {
			t.Errorf("Whole of %v and %v: %v %d", c[0], c[1], w, e)
		}
	}
}

// B1: has one another one, by examples.
func TestHas(t *testing.T) {
	for _, c := range []struct {
		p, q api.Prefix
		want bool
	}{
		{four(0, 0), four(0, 0), true},
		{four(0, 0), four(math.MaxUint32, 32), true},
		{four(0x0a000000, 8), four(0x0a010000, 16), true},
		{four(0x0a000000, 8), four(0x0affffff, 32), true},
		{four(0x0a000000, 8), four(0x0b000000, 32), false},
		{four(0x0a000000, 8), four(0x0a000000, 7), false},
		{four(0, 32), four(0, 31), false},
		{four(0, 0), sixteen(0, 0, 0), false},
		{four(0, 0), sixteen(0, 1, 128), false},
		{sixteen(0, 0, 0), four(0, 0), false},
		{sixteen(0, 0, 96), four(1, 32), false},
		{sixteen(0, 0, 128), four(0, 32), false},
		{sixteen(0, 0, 0), sixteen(math.MaxUint64, math.MaxUint64, 128), true},
		{sixteen(1, 0, 64), sixteen(1, math.MaxUint64, 128), true},
		{sixteen(1, 0, 64), sixteen(2, 0, 128), false},
		{sixteen(2, 0, 63), sixteen(3, 1<<63, 65), true},
		{sixteen(1, 1<<63, 65), sixteen(1, 0, 66), false},
	} {
		if has, e := prefix.Has(c.p, c.q); has != c.want || e != api.OK {
			t.Errorf("Has of %v and %v: %v %d", c.p, c.q, has, e)
		}
	}
}

func less(a, b api.Addr) bool {
	ahead, _ := addr.Less(a, b)
	return ahead
}

// B1, B3: one has another one just if the ends of that lie within its own; else they have no address in common, or the other one has it.
func TestOneHasTheOtherOrNothingInCommon(t *testing.T) {
	l := some()
	for _, p := range l {
		first, last, _ := prefix.Ends(p)
		for _, q := range l {
			from, to, _ := prefix.Ends(q)
			has, e := prefix.Has(p, q)
			if want := p.Addr.V6 == q.Addr.V6 && !less(from, first) && !less(last, to); has != want || e != api.OK {
				t.Fatalf("Has of %v and %v: %v %d", p, q, has, e)
			}
			back, _ := prefix.Has(q, p)
			common := p.Addr.V6 == q.Addr.V6 && !less(last, from) && !less(to, first)
			if (has || back) != common {
				t.Fatalf("%v and %v: %v and %v, an address in common: %v", p, q, has, back, common)
			}
			if has && back && p != q {
				t.Fatalf("%v and %v have one another", p, q)
			}
		}
	}
}

// rise by B2: the first address, then Bits.
func rise(p, q api.Prefix) bool {
	a, _, _ := prefix.Ends(p)
	b, _, _ := prefix.Ends(q)
	if a == b {
		return p.Bits < q.Bits
	}
	return less(a, b)
}

// B2: a prefix, its lesser half and its greater half rise; what rises the other way is no whole.
func TestHalvesRise(t *testing.T) {
	for _, p := range some() {
		x, y, e := prefix.Halves(p)
		if e != api.OK {
			continue
		}
		if !rise(p, x) || !rise(x, y) || rise(y, x) || rise(x, p) {
			t.Errorf("%v, %v, %v do not rise", p, x, y)
		}
		if w, e := prefix.Whole(y, x); w != nothing || e != api.ErrState {
			t.Errorf("Whole of %v and %v: %v %d", y, x, w, e)
		}
	}
}

// B2: in a list that rises no prefix has one that stands ahead of it.
func TestRisingPutsTheWiderFirst(t *testing.T) {
	l := some()
	slices.SortFunc(l, func(p, q api.Prefix) int {
		if rise(p, q) {
			return -1
		}
		if rise(q, p) {
			return 1
		}
		return 0
	})
	l = slices.Compact(l)
	for i, p := range l {
		for _, q := range l[:i] {
			if has, e := prefix.Has(p, q); has || e != api.OK {
				t.Fatalf("%v stands behind %v, and has it (%d)", p, q, e)
			}
		}
	}
}
