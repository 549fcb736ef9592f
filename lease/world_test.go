package lease_test

import (
	"math"
	"slices"
	"testing"

	"yardarm/api"
	"yardarm/lease"
)

func four(lo uint64) api.Addr { return api.Addr{Lo: lo} }

func sixteen(hi, lo uint64) api.Addr { return api.Addr{V6: true, Hi: hi, Lo: lo} }

// nowhere is the address that stands beside an error.
var nowhere api.Addr

// pool of a prefix.
func pool(a api.Addr, bits int, kept ...api.Addr) api.Pool {
	return api.Pool{Prefix: api.Prefix{Addr: a, Bits: bits}, Kept: kept}
}

// pools that are right: of both kinds, of every width, at the first address, at the last one, and with some kept back.
func pools() []api.Pool {
	return []api.Pool{
		pool(four(8), 30),
		pool(four(8), 30, four(8)),
		pool(four(8), 30, four(8), four(11)),
		pool(four(8), 30, four(8), four(9), four(10), four(11)),
		pool(four(8), 32),
		pool(four(8), 32, four(8)),
		pool(four(0), 28),
		pool(four(0), 28, four(0), four(1), four(2), four(5), four(9), four(15)),
		pool(four(0x0a000008), 29, four(0x0a000009)),
		pool(four(math.MaxUint32), 32),
		pool(four(math.MaxUint32-15), 28, four(math.MaxUint32)),
		pool(sixteen(0, 0), 124),
		pool(sixteen(1, 0), 126, sixteen(1, 0)),
		pool(sixteen(math.MaxUint64, math.MaxUint64-3), 126),
		pool(sixteen(math.MaxUint64, math.MaxUint64), 128),
	}
}

// at is the address of a pool at a place.
func at(p api.Pool, n uint64) api.Addr {
	a := p.Prefix.Addr
	a.Lo += n
	return a
}

// many: how many addresses a pool has.
func many(p api.Pool) int {
	if p.Prefix.Addr.V6 {
		return 1 << (128 - p.Prefix.Bits)
	}
	return 1 << (32 - p.Prefix.Bits)
}

// held: who has the address at a place of a pool, till when.
type held struct {
	place uint64
	who   string
	until int
}

// leases of a pool.
func leases(p api.Pool, l ...held) []api.Lease {
	var out []api.Lease
	for _, h := range l {
		out = append(out, api.Lease{Addr: at(p, h.place), Who: h.who, Until: h.until})
	}
	return out
}

func poolIs(t *testing.T, p api.Pool, want api.Errno) {
	t.Helper()
	if e := lease.Pool(p); e != want {
		t.Errorf("Pool of %v, %d kept: %d, and must be %d", p.Prefix, len(p.Kept), e, want)
	}
}

func checkIs(t *testing.T, p api.Pool, l []api.Lease, now int, want api.Errno) {
	t.Helper()
	if e := lease.Check(p, l, now); e != want {
		t.Errorf("Check of %v, %v at %d: %d, and must be %d", p, l[:min(len(l), api.MaxLeases+1)], now, e, want)
	}
}

func dropIs(t *testing.T, l []api.Lease, now int, want []api.Lease, gone int, why api.Errno) {
	t.Helper()
	if m, n, e := lease.Drop(l, now); !slices.Equal(m, want) || n != gone || e != why {
		t.Errorf("Drop of %v at %d: %v %d %d, and must be %v %d %d", l[:min(len(l), api.MaxLeases+1)], now, m, n, e, want, gone, why)
	}
}

func grantIs(t *testing.T, p api.Pool, l []api.Lease, who string, now, ttl int, want []api.Lease, a api.Addr, why api.Errno) {
	t.Helper()
	if m, b, e := lease.Grant(p, l, who, now, ttl); !slices.Equal(m, want) || b != a || e != why {
		t.Errorf("%q is granted of %v, %v at %d for %d: %v %v %d, and must be %v %v %d", who, p, l[:min(len(l), api.MaxLeases+1)], now, ttl, m, b, e, want, a, why)
	}
}

// draw numbers for what is asked at length, the same each time.
type draw uint64

func (d *draw) below(n int) int {
	*d = *d*6364136223846793005 + 1442695040888963407
	return int(uint64(*d) >> 33 % uint64(n))
}
