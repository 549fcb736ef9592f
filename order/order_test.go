package order_test

import (
	"math"
	"testing"

	"yardarm/addr"
	"yardarm/api"
	"yardarm/order"
	"yardarm/prefix"
)

func four(lo uint64, bits int) api.Prefix {
	return api.Prefix{Addr: api.Addr{Lo: lo}, Bits: bits}
}

func sixteen(hi, lo uint64, bits int) api.Prefix {
	return api.Prefix{Addr: api.Addr{V6: true, Hi: hi, Lo: lo}, Bits: bits}
}

// rising prefixes, by B2: by the first address, then by Bits; those of four bytes first.
func rising() []api.Prefix {
	return []api.Prefix{
		four(0, 0), four(0, 1), four(0, 31), four(0, 32),
		four(1, 32), four(2, 31), four(2, 32),
		four(0x0a000000, 8), four(0x0a000000, 16), four(0x0a010000, 16), four(0x0b000000, 8),
		four(1<<31, 1), four(math.MaxUint32, 32),
		sixteen(0, 0, 0), sixteen(0, 0, 64), sixteen(0, 0, 128), sixteen(0, 1, 128),
		sixteen(0, 1<<63, 65), sixteen(0, math.MaxUint64, 128),
		sixteen(1, 0, 64), sixteen(1, 0, 65), sixteen(1, 5, 128), sixteen(2, 0, 63), sixteen(2, 3, 128),
		sixteen(1<<63, 0, 1), sixteen(math.MaxUint64, math.MaxUint64, 128),
	}
}

// B2: prefixes rise by their first address, then by Bits.
func TestCompare(t *testing.T) {
	for i, p := range rising() {
		for k, q := range rising() {
			c := order.Compare(p, q)
			if (c < 0) != (i < k) || (c > 0) != (i > k) {
				t.Errorf("%v and %v: %d", p, q, c)
			}
		}
	}
}

// A3: an address stands ahead of another one just as it does by its own layer, and never ahead of itself.
func TestLess(t *testing.T) {
	for i, p := range rising() {
		for k, q := range rising() {
			if want := i < k && p.Addr != q.Addr; order.Less(p.Addr, q.Addr) != want {
				t.Errorf("%v and %v: %v", p.Addr, q.Addr, !want)
			}
		}
	}
}

// B2: the ends of a prefix, and what is beside them, tell who is within; the other kind never is.
func TestWithin(t *testing.T) {
	for _, p := range rising() {
		first, last, e := prefix.Ends(p)
		if e != api.OK {
			t.Fatalf("Ends of %v: %d", p, e)
		}
		if !order.Within(first, p) || !order.Within(last, p) {
			t.Errorf("%v has not its ends", p)
		}
		if next, ok, _ := addr.Next(last); ok && order.Within(next, p) {
			t.Errorf("%v has the address behind it", p)
		}
		if first.Hi != 0 || first.Lo != 0 {
			before := first
			before.Lo--
			if first.Lo == 0 {
				before.Hi--
			}
			if order.Within(before, p) {
				t.Errorf("%v has the address ahead of it", p)
			}
		}
		other := api.Addr{V6: !first.V6, Lo: first.Lo & math.MaxUint32}
		if order.Within(other, p) {
			t.Errorf("%v has an address of the other kind", p)
		}
	}
}
