package state

import (
	"slices"

	"yardarm/api"
	"yardarm/lease"
	"yardarm/order"
	"yardarm/prefix"
)

// doer is who does an op: a state that is right, all of it the doer's own. Behind an error it is of no use any more.
type doer struct{ api.State }

// do an op that is right; which address it is about, if its kind tells one.
func (d *doer) do(o api.Op) (api.Addr, api.Errno) {
	switch o.Kind {
	case api.OpPool:
		return api.Addr{}, d.pool(o.Prefix)
	case api.OpKeep:
		return api.Addr{}, d.keep(o.Addr)
	case api.OpGrant:
		return d.grant(o)
	case api.OpFree:
		return d.free(o.Who)
	}
	return api.Addr{}, d.tick(o.N)
}

func (d *doer) pool(p api.Prefix) api.Errno {
	if slices.ContainsFunc(d.Pools, func(q api.Pool) bool { return common(p, q.Prefix) }) {
		return api.ErrTwice
	}
	if len(d.Pools) >= api.MaxPools {
		return api.ErrMany
	}
	n := first(d.Pools, func(q api.Pool) bool { return order.Compare(p, q.Prefix) < 0 })
	d.Pools = slices.Insert(d.Pools, n, api.Pool{Prefix: p})
	return api.OK
}

func (d *doer) keep(a api.Addr) api.Errno {
	n := slices.IndexFunc(d.Pools, has(a))
	if n < 0 {
		return api.ErrNone
	}
	kept := d.Pools[n].Kept
	if slices.Contains(kept, a) {
		return api.ErrTwice
	}
	if len(kept) >= api.MaxKept {
		return api.ErrMany
	}
	k := first(kept, func(b api.Addr) bool { return order.Less(a, b) })
	d.Pools[n].Kept = slices.Insert(kept, k, a)
	return api.OK
}

// grant: the leases of a pool stand beside each other, as leases rise and a pool has all addresses from its first one to its last one; what they are then stands where they stood.
func (d *doer) grant(o api.Op) (api.Addr, api.Errno) {
	if o.Of >= len(d.Pools) {
		return api.Addr{}, api.ErrNone
	}
	from, to := d.stretch(d.Pools[o.Of].Prefix)
	if n := slices.IndexFunc(d.Leases, by(o.Who)); n >= 0 && (n < from || n >= to) {
		return api.Addr{}, api.ErrTwice
	}
	l, a, e := lease.Grant(d.Pools[o.Of], d.Leases[from:to], o.Who, d.Now, o.N)
	if e != api.OK {
		return api.Addr{}, e
	}
	d.Leases = slices.Replace(d.Leases, from, to, l...)
	if len(d.Leases) > api.MaxLeases {
		return api.Addr{}, api.ErrMany
	}
	return a, api.OK
}

// stretch of the leases of a prefix: the place of the first one, and that behind the last one.
func (d *doer) stretch(p api.Prefix) (int, int) {
	least, most, _ := prefix.Ends(p)
	from := first(d.Leases, func(l api.Lease) bool { return !order.Less(l.Addr, least) })
	to := first(d.Leases, func(l api.Lease) bool { return order.Less(most, l.Addr) })
	return from, to
}

func (d *doer) free(who string) (api.Addr, api.Errno) {
	n := slices.IndexFunc(d.Leases, by(who))
	if n < 0 {
		return api.Addr{}, api.ErrNone
	}
	a := d.Leases[n].Addr
	d.Leases = slices.Delete(d.Leases, n, n+1)
	return a, api.OK
}

func (d *doer) tick(now int) api.Errno {
	if now < d.Now {
		return api.ErrState
	}
	d.Leases, _, _ = lease.Drop(d.Leases, now) // leases and time are right
	d.Now = now
	return api.OK
}

// first place of what is looked for, or the place behind all: where something belongs, that is, if it goes ahead of that.
func first[T any](l []T, is func(T) bool) int {
	if n := slices.IndexFunc(l, is); n >= 0 {
		return n
	}
	return len(l)
}
