package span_test

import (
	"math"
	"slices"
	"testing"

	"yardarm/api"
	"yardarm/prefix"
	"yardarm/span"
)

// C1: norms, by examples: what is had by another one, halves in any order, halves of halves, no halves though beside each other, both kinds.
func TestNorm(t *testing.T) {
	for _, c := range []struct{ l, want []api.Prefix }{
		{nil, nil},
		{[]api.Prefix{}, nil},
		{[]api.Prefix{four(0, 0)}, []api.Prefix{four(0, 0)}},
		{[]api.Prefix{four(5, 32), four(5, 32)}, []api.Prefix{four(5, 32)}},
		{[]api.Prefix{four(1, 32), four(0, 32)}, []api.Prefix{four(0, 31)}},
		{[]api.Prefix{four(1, 32), four(2, 32)}, []api.Prefix{four(1, 32), four(2, 32)}},
		{[]api.Prefix{four(4, 30), four(8, 30)}, []api.Prefix{four(4, 30), four(8, 30)}},
		{[]api.Prefix{four(3, 32), four(2, 32), four(0, 31)}, []api.Prefix{four(0, 30)}},
		{[]api.Prefix{four(0x0a010200, 24), four(0x0a000000, 8), four(9, 32)}, []api.Prefix{four(9, 32), four(0x0a000000, 8)}},
		{[]api.Prefix{four(0, 32), four(1, 32), four(1, 32), four(0, 31), four(2, 31)}, []api.Prefix{four(0, 30)}},
		{[]api.Prefix{four(1<<31, 1), four(0, 1)}, []api.Prefix{four(0, 0)}},
		{[]api.Prefix{four(math.MaxUint32, 32), four(math.MaxUint32-1, 32)}, []api.Prefix{four(math.MaxUint32-1, 31)}},
		{[]api.Prefix{sixteen(0, 1, 128), four(1, 32), sixteen(0, 0, 128), four(0, 32)}, []api.Prefix{four(0, 31), sixteen(0, 0, 127)}},
		{[]api.Prefix{sixteen(0, 1, 128), four(0, 32)}, []api.Prefix{four(0, 32), sixteen(0, 1, 128)}},
		{[]api.Prefix{sixteen(0, 0, 0), four(0, 0)}, []api.Prefix{four(0, 0), sixteen(0, 0, 0)}},
		{[]api.Prefix{sixteen(1<<63, 0, 1), sixteen(0, 0, 1)}, []api.Prefix{sixteen(0, 0, 0)}},
		{[]api.Prefix{sixteen(3, 0, 64), sixteen(2, 1<<63, 65), sixteen(2, 0, 65)}, []api.Prefix{sixteen(2, 0, 63)}},
		{[]api.Prefix{sixteen(1, 0, 64), sixteen(2, 0, 64)}, []api.Prefix{sixteen(1, 0, 64), sixteen(2, 0, 64)}},
		{make([]api.Prefix, api.MaxList), []api.Prefix{four(0, 0)}},
	} {
		if n, e := span.Norm(c.l); !slices.Equal(n, c.want) || e != api.OK {
			t.Errorf("Norm of %v: %v %d, and must be %v", c.l, n, e, c.want)
		}
	}
}

// C1: all that p leaves, by examples.
func TestMinus(t *testing.T) {
	for _, c := range []struct {
		l    []api.Prefix
		p    api.Prefix
		want []api.Prefix
	}{
		{nil, four(0, 0), nil},
		{[]api.Prefix{four(0, 30)}, four(0, 30), nil},
		{[]api.Prefix{four(0, 30)}, four(0, 0), nil},
		{[]api.Prefix{four(0, 30)}, four(2, 32), []api.Prefix{four(0, 31), four(3, 32)}},
		{[]api.Prefix{four(0, 30)}, four(4, 30), []api.Prefix{four(0, 30)}},
		{[]api.Prefix{four(0, 31), four(2, 31)}, four(4, 30), []api.Prefix{four(0, 30)}},
		{[]api.Prefix{four(0, 31), four(2, 31)}, four(3, 32), []api.Prefix{four(0, 31), four(2, 32)}},
		{[]api.Prefix{four(2, 31), four(0, 29), four(2, 32)}, four(2, 32), []api.Prefix{four(0, 31), four(3, 32), four(4, 30)}},
		{[]api.Prefix{four(0, 0), sixteen(0, 0, 0)}, sixteen(0, 0, 0), []api.Prefix{four(0, 0)}},
		{[]api.Prefix{four(0, 0), sixteen(0, 0, 0)}, four(0, 0), []api.Prefix{sixteen(0, 0, 0)}},
		{[]api.Prefix{sixteen(0, 0, 0)}, four(0, 0), []api.Prefix{sixteen(0, 0, 0)}},
		{[]api.Prefix{sixteen(4, 0, 62)}, sixteen(5, 1<<63, 65), []api.Prefix{sixteen(4, 0, 64), sixteen(5, 0, 65), sixteen(6, 0, 63)}},
	} {
		if n, e := span.Minus(c.l, c.p); !slices.Equal(n, c.want) || e != api.OK {
			t.Errorf("%v minus %v: %v %d, and must be %v", c.l, c.p, n, e, c.want)
		}
	}
}

// C1: of all addresses but one there is one prefix left of each width, however many that are.
func TestMinusOneOfAll(t *testing.T) {
	for _, c := range []struct{ all, one api.Prefix }{
		{four(0, 0), four(0, 32)},
		{four(0, 0), four(0x0a5a3c99, 32)},
		{four(0, 0), four(math.MaxUint32, 32)},
		{sixteen(0, 0, 0), sixteen(0, 0, 128)},
		{sixteen(0, 0, 0), sixteen(0x20010db85a3c9981, 0x123456789abcdef1, 128)},
		{sixteen(0, 0, 0), sixteen(math.MaxUint64, math.MaxUint64, 128)},
	} {
		n, e := span.Minus(slices.Repeat([]api.Prefix{c.all}, api.MaxList), c.one)
		if len(n) != c.one.Bits || e != api.OK {
			t.Fatalf("all minus %v: %d, %d", c.one, len(n), e)
		}
		var widths []int
		for i, p := range n {
			widths = append(widths, p.Bits)
			if has, _ := prefix.Has(p, c.one); has || prefix.Check(p) != api.OK {
				t.Errorf("all minus %v: %v is left", c.one, p)
			}
			if i > 0 && !rises(n[i-1], p) {
				t.Errorf("all minus %v: %v and %v do not rise", c.one, n[i-1], p)
			}
		}
		slices.Sort(widths)
		for i, w := range widths {
			if w != i+1 {
				t.Errorf("all minus %v: widths %v", c.one, widths)
				break
			}
		}
	}
}

// rises by B2, told from the fields of two prefixes of one kind.
func rises(p, q api.Prefix) bool {
	if p.Addr.Hi != q.Addr.Hi {
		return p.Addr.Hi < q.Addr.Hi
	}
	if p.Addr.Lo != q.Addr.Lo {
		return p.Addr.Lo < q.Addr.Lo
	}
	return p.Bits < q.Bits
}

// C1, C2: all lists of up to three prefixes of a world, whatever their order: the norm is the one of their addresses.
func TestNormOfFew(t *testing.T) {
	for _, top := range tops() {
		w := world(t, top)
		for _, a := range w {
			for _, b := range w {
				for _, c := range w {
					l := []api.Prefix{a.prefix, b.prefix, c.prefix}
					for k := range l {
						mask := []int{a.mask, a.mask | b.mask, a.mask | b.mask | c.mask}[k]
						normIs(t, l[:k+1], shortest(w, 0, mask))
					}
				}
			}
		}
	}
}

func normIs(t *testing.T, l, want []api.Prefix) {
	t.Helper()
	if n, e := span.Norm(l); !slices.Equal(n, want) || e != api.OK {
		t.Fatalf("Norm of %v: %v %d, and must be %v", l, n, e, want)
	}
}

// C1, C2: long lists of a world: their norm, what is left of them, and which addresses they have.
func TestLongLists(t *testing.T) {
	var d draw
	for _, top := range tops() {
		w := world(t, top)
		for range 200 {
			var l []api.Prefix
			mask := 0
			for range d.below(api.MaxList + 1) {
				p := w[1+d.below(len(w)-1)]
				l, mask = append(l, p.prefix), mask|p.mask
			}
			normIs(t, l, shortest(w, 0, mask))
			for _, p := range w {
				minusIs(t, l, p.prefix, shortest(w, 0, mask&^p.mask))
			}
			for _, p := range w[len(w)/2:] {
				hasIs(t, l, p.prefix, mask&p.mask != 0)
			}
		}
	}
}

func minusIs(t *testing.T, l []api.Prefix, p api.Prefix, want []api.Prefix) {
	t.Helper()
	if n, e := span.Minus(l, p); !slices.Equal(n, want) || e != api.OK {
		t.Fatalf("%v minus %v: %v %d, and must be %v", l, p, n, e, want)
	}
}

// hasIs asks for both ends of a part.
func hasIs(t *testing.T, l []api.Prefix, p api.Prefix, want bool) {
	t.Helper()
	first, last, _ := prefix.Ends(p)
	for _, a := range []api.Addr{first, last} {
		if has, e := span.Has(l, a); has != want || e != api.OK {
			t.Fatalf("Has of %v, %v: %v %d", l, a, has, e)
		}
	}
}

// C2: the norm of a norm is itself; what was taken away is not there, and all else is, when it comes in again.
func TestTakenAwayAndBack(t *testing.T) {
	var d draw
	w, v := world(t, four(0x0a000008, 29)), world(t, sixteen(5, 0, 64))
	both := append(w, v...)
	for range 500 {
		var l []api.Prefix
		for range d.below(api.MaxList) {
			l = append(l, both[d.below(len(both))].prefix)
		}
		n, _ := span.Norm(l)
		normIs(t, n, n)
		p := both[d.below(len(both))].prefix
		left, _ := span.Minus(l, p)
		minusIs(t, left, p, left)
		hasIs(t, left, p, false)
		withP, _ := span.Norm(append(slices.Clone(l), p))
		normIs(t, append(slices.Clone(left), p), withP)
	}
}

// C1: which addresses a list has, by examples: the ends of its prefixes, what is beside them, and the other kind.
func TestHas(t *testing.T) {
	l := []api.Prefix{sixteen(1, 0, 64), four(0x0a000008, 30), four(0, 32)}
	for _, c := range []struct {
		a    api.Addr
		want bool
	}{
		{api.Addr{}, true},
		{api.Addr{Lo: 1}, false},
		{api.Addr{Lo: 0x0a000007}, false},
		{api.Addr{Lo: 0x0a000008}, true},
		{api.Addr{Lo: 0x0a00000b}, true},
		{api.Addr{Lo: 0x0a00000c}, false},
		{api.Addr{Lo: math.MaxUint32}, false},
		{api.Addr{V6: true}, false},
		{api.Addr{V6: true, Lo: 0x0a000008}, false},
		{api.Addr{V6: true, Lo: math.MaxUint64}, false},
		{api.Addr{V6: true, Hi: 1}, true},
		{api.Addr{V6: true, Hi: 1, Lo: math.MaxUint64}, true},
		{api.Addr{V6: true, Hi: 2}, false},
	} {
		if has, e := span.Has(l, c.a); has != c.want || e != api.OK {
			t.Errorf("%v: %v %d", c.a, has, e)
		}
		if has, e := span.Has(nil, c.a); has || e != api.OK {
			t.Errorf("%v in nothing: %v %d", c.a, has, e)
		}
	}
}
