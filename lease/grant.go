package lease

import (
	"slices"

	"yardarm/addr"
	"yardarm/api"
	"yardarm/order"
	"yardarm/prefix"
)

// granter is who grants: a pool that is right, and the leases of it that are not over. The list is the granter's own.
type granter struct {
	api.Pool
	leases []api.Lease
}

// grant an address till a time; false, if none is left.
func (g *granter) grant(who string, until int) (api.Addr, bool) {
	n := slices.IndexFunc(g.leases, func(l api.Lease) bool { return l.Who == who })
	if n >= 0 {
		g.leases[n].Until = until
		return g.leases[n].Addr, true
	}
	a, ok := g.first()
	if ok {
		g.put(api.Lease{Addr: a, Who: who, Until: until})
	}
	return a, ok
}

// first address that may be granted; false, if there is none.
func (g *granter) first() (api.Addr, bool) {
	for a := range g.addresses {
		leased := func(l api.Lease) bool { return l.Addr == a }
		if !slices.Contains(g.Kept, a) && !slices.ContainsFunc(g.leases, leased) {
			return a, true
		}
	}
	return api.Addr{}, false
}

// addresses of the pool, rising. The last one is asked for ahead of going on, as there may be none behind it.
func (g *granter) addresses(yield func(api.Addr) bool) {
	a, last, _ := prefix.Ends(g.Prefix)
	for yield(a) && a != last {
		a, _, _ = addr.Next(a)
	}
}

// put a lease where it belongs, so that the leases rise still.
func (g *granter) put(one api.Lease) {
	n := slices.IndexFunc(g.leases, func(l api.Lease) bool { return order.Less(one.Addr, l.Addr) })
	if n < 0 {
		n = len(g.leases)
	}
	g.leases = slices.Insert(g.leases, n, one)
}
