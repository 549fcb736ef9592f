package addr_test

import (
	"math"
	"math/rand/v2"
	"strconv"
	"strings"
	"testing"

	"yardarm/addr"
	"yardarm/api"
)

// of groups, the greatest one first, an address.
func of(l [8]uint64) api.Addr {
	return api.Addr{V6: true, Hi: l[0]<<48 | l[1]<<32 | l[2]<<16 | l[3], Lo: l[4]<<48 | l[5]<<32 | l[6]<<16 | l[7]}
}

// told: groups by hexadecimal digits, with `::` for those from one place to ahead of another one.
func told(l [8]uint64, from, to int) string {
	var ahead, behind []string
	for i, g := range l {
		if i < from {
			ahead = append(ahead, strconv.FormatUint(g, 16))
		} else if i >= to {
			behind = append(behind, strconv.FormatUint(g, 16))
		}
	}
	if from == to {
		return strings.Join(append(ahead, behind...), ":")
	}
	return strings.Join(ahead, ":") + "::" + strings.Join(behind, ":")
}

// patterns: groups for each choice of which of them are 0, the others of all lengths.
func patterns() [][8]uint64 {
	var all [][8]uint64
	for pick := range 256 {
		var l [8]uint64
		for i := range l {
			if pick>>i&1 == 1 {
				l[i] = []uint64{1, 0x20, 0xabc, 0xffff, 0xf, 0x10, 0x1000, 0xd}[i]
			}
		}
		all = append(all, l)
	}
	return all
}

// rows of groups that are 0, as pairs of places.
func rows(l [8]uint64) [][2]int {
	var all [][2]int
	for from := range l {
		for to := from + 1; to <= len(l) && l[to-1] == 0; to++ {
			all = append(all, [2]int{from, to})
		}
	}
	return all
}

// A1: as the document tells it, by examples.
func TestPrint(t *testing.T) {
	for _, c := range []struct {
		a    api.Addr
		want string
	}{
		{api.Addr{}, "0.0.0.0"},
		{api.Addr{Lo: 0x01020304}, "1.2.3.4"},
		{api.Addr{Lo: 0x0a000009}, "10.0.0.9"},
		{api.Addr{Lo: 0x64c80a00}, "100.200.10.0"},
		{api.Addr{Lo: math.MaxUint32}, "255.255.255.255"},
		{of([8]uint64{}), "::"},
		{of([8]uint64{7: 1}), "::1"},
		{of([8]uint64{0: 1}), "1::"},
		{of([8]uint64{0: 1, 7: 2}), "1::2"},
		{of([8]uint64{1, 2, 3, 4, 5, 6, 7, 8}), "1:2:3:4:5:6:7:8"},
		{of([8]uint64{0x2001, 0xdb8, 0, 0, 0, 0, 0, 0xa}), "2001:db8::a"},
		{of([8]uint64{1, 2, 3, 0, 5, 6, 7, 8}), "1:2:3:0:5:6:7:8"},
		{of([8]uint64{0, 2, 3, 4, 5, 6, 7, 8}), "0:2:3:4:5:6:7:8"},
		{of([8]uint64{1, 2, 3, 4, 5, 6, 7, 0}), "1:2:3:4:5:6:7:0"},
		{of([8]uint64{1, 0, 1, 0, 1, 0, 1, 0}), "1:0:1:0:1:0:1:0"},
		{of([8]uint64{0, 0, 3, 4, 5, 6, 7, 8}), "::3:4:5:6:7:8"},
		{of([8]uint64{1, 2, 3, 4, 5, 6, 0, 0}), "1:2:3:4:5:6::"},
		{of([8]uint64{0, 0, 1, 0, 0, 1, 1, 1}), "::1:0:0:1:1:1"},
		{of([8]uint64{1, 0, 0, 1, 0, 0, 1, 1}), "1::1:0:0:1:1"},
		{of([8]uint64{0, 0, 1, 0, 0, 0, 1, 0}), "0:0:1::1:0"},
		{of([8]uint64{0, 0, 0, 0, 0, 0xffff, 0xa00, 1}), "::ffff:a00:1"},
		{of([8]uint64{0xffff, 0xffff, 0xffff, 0xffff, 0xffff, 0xffff, 0xffff, 0xffff}), "ffff:ffff:ffff:ffff:ffff:ffff:ffff:ffff"},
	} {
		if s, e := addr.Print(c.a); s != c.want || e != api.OK {
			t.Errorf("%v is printed as %q %d, and must be %q", c.a, s, e, c.want)
		}
	}
}

// A1: `::` is the first one of the longest rows of two or more, whichever groups are 0.
func TestPrintPicksTheRow(t *testing.T) {
	for _, l := range patterns() {
		from, to := 0, 0
		for _, r := range rows(l) {
			if n := r[1] - r[0]; n >= 2 && n > to-from {
				from, to = r[0], r[1]
			}
		}
		if s, e := addr.Print(of(l)); s != told(l, from, to) || e != api.OK {
			t.Errorf("%x is printed as %q %d", l, s, e)
		}
	}
}

// A4: what is printed is parsed as it was.
func TestPrintedIsParsed(t *testing.T) {
	all := rising()
	for _, l := range patterns() {
		all = append(all, of(l))
	}
	r := rand.New(rand.NewPCG(1, 4))
	for range 20000 {
		all = append(all, api.Addr{Lo: uint64(r.Uint32())}, api.Addr{V6: true, Hi: r.Uint64() & r.Uint64(), Lo: r.Uint64() & r.Uint64()})
	}
	for _, a := range all {
		s, e := addr.Print(a)
		if b, f := addr.Parse(s); e != api.OK || b != a || f != api.OK {
			t.Fatalf("%v is printed as %q %d, and that parsed as %v %d", a, s, e, b, f)
		}
	}
}

// A4: no other `::` of two or more groups tells an address with fewer groups.
func TestNothingShorterTellsIt(t *testing.T) {
	groups := func(s string) int {
		return len(strings.FieldsFunc(s, func(c rune) bool { return c == ':' }))
	}
	for _, l := range patterns() {
		s, _ := addr.Print(of(l))
		for _, r := range rows(l) {
			other := told(l, r[0], r[1])
			if a, e := addr.Parse(other); a != of(l) || e != api.OK {
				t.Errorf("%q is parsed as %v %d", other, a, e)
			}
			if r[1]-r[0] >= 2 && groups(other) < groups(s) {
				t.Errorf("%q has fewer groups than what is printed, %q", other, s)
			}
		}
	}
}
