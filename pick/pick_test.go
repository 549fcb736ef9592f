package pick_test

import (
	"math"
	"math/big"
	"slices"
	"testing"

	"yardarm/api"
	"yardarm/order"
	"yardarm/pick"
	"yardarm/prefix"
)

func freeIs(t *testing.T, p api.Prefix, used, want []api.Prefix) {
	t.Helper()
	if l, e := pick.Free(p, used); !slices.Equal(l, want) || e != api.OK {
		t.Fatalf("Free of %v, used %v: %v %d, and must be %v", p, used, l, e, want)
	}
}

func firstIs(t *testing.T, p api.Prefix, used []api.Prefix, bits int, want api.Prefix, why api.Errno) {
	t.Helper()
	if q, e := pick.First(p, used, bits); q != want || e != why {
		t.Fatalf("First of %v, used %v, bits %d: %v %d, and must be %v %d", p, used, bits, q, e, want, why)
	}
}

// E1: what is left, by examples: nothing used, all used, used twice, used beside it, above it, and of the other kind.
func TestFree(t *testing.T) {
	p := four(0x0a000008, 29)
	for _, c := range []struct{ used, want []api.Prefix }{
		{nil, []api.Prefix{p}},
		{[]api.Prefix{}, []api.Prefix{p}},
		{[]api.Prefix{p}, nil},
		{[]api.Prefix{p, p}, nil},
		{[]api.Prefix{four(0, 0)}, nil},
		{[]api.Prefix{four(0x0a00000c, 30), four(0x0a000008, 30)}, nil},
		{[]api.Prefix{four(0x0a000000, 29), four(0x0a000010, 29)}, []api.Prefix{p}},
		{[]api.Prefix{sixteen(0, 0x0a000008, 125), sixteen(0, 0, 0)}, []api.Prefix{p}},
		{[]api.Prefix{four(0x0a000008, 30)}, []api.Prefix{four(0x0a00000c, 30)}},
		{[]api.Prefix{four(0x0a00000f, 32), four(0x0a00000f, 32)}, []api.Prefix{four(0x0a000008, 30), four(0x0a00000c, 31), four(0x0a00000e, 32)}},
		{[]api.Prefix{four(0x0a00000e, 31), four(0x0a000009, 32)}, []api.Prefix{four(0x0a000008, 32), four(0x0a00000a, 31), four(0x0a00000c, 31)}},
		{[]api.Prefix{four(0x0a00000a, 32), four(0x0a00000d, 32)}, []api.Prefix{four(0x0a000008, 31), four(0x0a00000b, 32), four(0x0a00000c, 32), four(0x0a00000e, 31)}},
		{[]api.Prefix{four(0x0a000009, 32), four(0x0a000008, 29)}, nil},
	} {
		freeIs(t, p, c.used, c.want)
	}
	freeIs(t, four(7, 32), []api.Prefix{four(6, 32)}, []api.Prefix{four(7, 32)})
	freeIs(t, four(7, 32), []api.Prefix{four(6, 31)}, nil)
	freeIs(t, sixteen(0, 0, 0), []api.Prefix{sixteen(0, 0, 1)}, []api.Prefix{sixteen(1<<63, 0, 1)})
	freeIs(t, sixteen(0, 0, 0), []api.Prefix{four(0, 0)}, []api.Prefix{sixteen(0, 0, 0)})
}

// E1, E2: the first one, by examples: one that is wide enough, not the first that is free; the bits of p itself, and all bits there are.
func TestFirst(t *testing.T) {
	p := four(0x0a000008, 29)
	used := []api.Prefix{four(0x0a000008, 32), four(0x0a00000c, 32)}
	firstIs(t, p, used, 29, nothing, api.ErrFull)
	firstIs(t, p, used, 30, nothing, api.ErrFull)
	firstIs(t, p, used, 31, four(0x0a00000a, 31), api.OK)
	firstIs(t, p, used, 32, four(0x0a000009, 32), api.OK)
	for bits := 29; bits <= 32; bits++ {
		firstIs(t, p, nil, bits, four(0x0a000008, bits), api.OK)
		firstIs(t, p, []api.Prefix{p}, bits, nothing, api.ErrFull)
		firstIs(t, p, []api.Prefix{four(0, 0)}, bits, nothing, api.ErrFull)
		firstIs(t, p, []api.Prefix{sixteen(0, 0, 0)}, bits, four(0x0a000008, bits), api.OK)
	}
	firstIs(t, four(0, 0), nil, 0, four(0, 0), api.OK)
	firstIs(t, four(0, 0), []api.Prefix{four(0, 32)}, 0, nothing, api.ErrFull)
	firstIs(t, four(0, 0), []api.Prefix{four(0, 32)}, 1, four(1<<31, 1), api.OK)
	firstIs(t, four(math.MaxUint32, 32), nil, 32, four(math.MaxUint32, 32), api.OK)
	firstIs(t, sixteen(0, 0, 0), nil, 128, sixteen(0, 0, 128), api.OK)
	firstIs(t, sixteen(0, 0, 0), []api.Prefix{sixteen(0, 0, 64)}, 128, sixteen(1, 0, 128), api.OK)
	firstIs(t, sixteen(0, 0, 0), []api.Prefix{sixteen(0, 0, 64)}, 63, sixteen(2, 0, 63), api.OK)
	firstIs(t, sixteen(2, 0, 63), []api.Prefix{sixteen(2, 1, 128)}, 65, sixteen(2, 1<<63, 65), api.OK)
}

// E1, E2: one and two used, whichever of a world, in both orders.
func TestFewUsed(t *testing.T) {
	for _, top := range tops() {
		w := world(t, top)
		all := slices.Concat(w...)
		for _, a := range all {
			holds(t, w, []api.Prefix{a})
			for _, b := range all {
				holds(t, w, []api.Prefix{a, b})
			}
		}
	}
}

// E1, E2: many used, up to as many as may be: of a world, above it, and of the other kind.
func TestManyUsed(t *testing.T) {
	var d draw
	for _, top := range tops() {
		w := world(t, top)
		single := w[deep]
		for range 300 {
			var used []api.Prefix
			for range d.below(api.MaxList + 1) {
				used = append(used, single[d.below(len(single))])
			}
			if len(used) > 2 {
				level := w[1+d.below(deep)]
				used[0] = level[d.below(len(level))]
				used[1] = []api.Prefix{four(0, 0), sixteen(0, 0, 0)}[d.below(2)]
				if used[1].Addr.V6 == top.Addr.V6 && d.below(4) > 0 {
					used[1] = used[2]
				}
			}
			holds(t, w, used)
		}
	}
}

// holds: what is picked of a world is what the world tells, for all bits that it has and more.
func holds(t *testing.T, w [][]api.Prefix, used []api.Prefix) {
	t.Helper()
	top := w[0][0]
	freeIs(t, top, used, widest(w, 0, 0, used))
	for i, level := range w {
		want, why := firstOf(level, used)
		firstIs(t, top, used, top.Bits+i, want, why)
		if i == deep {
			// Nothing is used below the single parts, so what is longer begins as they do.
			most := 32
			if top.Addr.V6 {
				most = 128
			}
			if want.Bits = most; why != api.OK {
				want = nothing
			}
			firstIs(t, top, used, most, want, why)
		}
	}
}

// size: how many addresses a prefix has.
func size(p api.Prefix) *big.Int {
	most := 32
	if p.Addr.V6 {
		most = 128
	}
	return new(big.Int).Lsh(big.NewInt(1), uint(most-p.Bits))
}

// E1, E2: of all addresses, with as many single ones used as may be, far more is left than a list may have that comes in; it is a norm, has none of them, and all else.
func TestFreeIsLong(t *testing.T) {
	for _, top := range []api.Prefix{four(0, 0), sixteen(0, 0, 0)} {
		var used []api.Prefix
		most := 32
		if top.Addr.V6 {
			most = 128
		}
		for i := range uint64(api.MaxList) {
			if top.Addr.V6 {
				used = append(used, sixteen(i*0x1555555555555555, i*0x0123456789abcdef, most))
			} else {
				used = append(used, four(i*0x15555555, most))
			}
		}
		free, e := pick.Free(top, used)
		if e != api.OK || len(free) < 10*api.MaxList {
			t.Fatalf("of %v %d are left, %d", top, len(free), e)
		}
		sum := big.NewInt(int64(len(used)))
		for i, p := range free {
			sum.Add(sum, size(p))
			if has, _ := prefix.Has(top, p); !has || meets(p, used) {
				t.Errorf("%v is not in %v, or is used", p, top)
			}
			if i == 0 {
				continue
			}
			if _, f := prefix.Whole(free[i-1], p); order.Compare(free[i-1], p) >= 0 || meets(p, free[:i]) || f == api.OK {
				t.Errorf("%v behind %v: no norm", p, free[i-1])
			}
		}
		if sum.Cmp(size(top)) != 0 {
			t.Errorf("of %v there are %v", top, sum)
		}
	}
}

// E2: picking one after the other, and using it, fills a prefix from its beginning to its end; nothing is picked twice.
func TestPickTillFull(t *testing.T) {
	for _, c := range []struct {
		p    api.Prefix
		bits int
	}{{four(0x0a000008, 29), 32}, {four(0, 29), 32}, {four(0, 0), 3}, {sixteen(4, 0, 62), 65}, {sixteen(1<<64-1, 1<<64-8, 125), 128}} {
		var used []api.Prefix
		for i := range 8 {
			q, e := pick.First(c.p, used, c.bits)
			if has, _ := prefix.Has(c.p, q); e != api.OK || !has || q.Bits != c.bits || meets(q, used) {
				t.Fatalf("%d of %v: %v %d", i, c.p, q, e)
			}
			if i > 0 && order.Compare(used[i-1], q) >= 0 {
				t.Errorf("%v is picked behind %v", q, used[i-1])
			}
			used = append(used, q)
		}
		firstIs(t, c.p, used, c.bits, nothing, api.ErrFull)
		freeIs(t, c.p, used, nil)
	}
}
