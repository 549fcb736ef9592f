package span_test

import (
	"testing"

	"yardarm/api"
	"yardarm/prefix"
)

func four(lo uint64, bits int) api.Prefix {
	return api.Prefix{Addr: api.Addr{Lo: lo}, Bits: bits}
}

func sixteen(hi, lo uint64, bits int) api.Prefix {
	return api.Prefix{Addr: api.Addr{V6: true, Hi: hi, Lo: lo}, Bits: bits}
}

// deep is how many bits a world has below its top: so it has 1<<deep parts, and a set of parts is a mask.
const deep = 3

// tops of worlds: of both kinds, at the first address, at the last one, and where the greater half of an address meets the lesser one.
func tops() []api.Prefix {
	return []api.Prefix{
		four(0, 0),
		four(0x0a000008, 29),
		four(1<<32-8, 29),
		sixteen(0, 0, 0),
		sixteen(1<<63|4, 0, 62),
		sixteen(5, 0, 64),
		sixteen(1<<64-1, 1<<64-8, 125),
	}
}

// part of a world: a prefix, and the mask of the parts that it is.
type part struct {
	prefix api.Prefix
	mask   int
}

// world: all prefixes from a top on down to the single parts.
func world(t *testing.T, top api.Prefix) []part {
	t.Helper()
	l := []part{{top, 1<<(1<<deep) - 1}}
	for i := 0; len(l) < 1<<(deep+1)-1; i++ {
		x, y, e := prefix.Halves(l[i].prefix)
		if e != api.OK {
			t.Fatalf("Halves of %v: %d", l[i].prefix, e)
		}
		wide := top.Bits + deep - x.Bits
		low := l[i].mask & -l[i].mask * (1<<(1<<wide) - 1) // the lesser half of the mask
		l = append(l, part{x, low}, part{y, l[i].mask &^ low})
	}
	return l
}

// shortest rising list for a mask: the widest prefixes that lie in it, told from the top down, and so by nothing that a norm is made with.
func shortest(l []part, at, mask int) []api.Prefix {
	p := l[at]
	if p.mask&mask == 0 {
		return nil
	}
	if p.mask&mask == p.mask {
		return []api.Prefix{p.prefix}
	}
	return append(shortest(l, 2*at+1, mask), shortest(l, 2*at+2, mask)...)
}

// draw numbers for lists that are long, the same each time.
type draw uint64

func (d *draw) below(n int) int {
	*d = *d*6364136223846793005 + 1442695040888963407
	return int(uint64(*d) >> 33 % uint64(n))
}
