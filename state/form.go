package state

import (
	"yardarm/addr"
	"yardarm/api"
	"yardarm/lease"
	"yardarm/name"
)

// Form of an op.
func Form(o api.Op) api.Errno {
	if o.Kind < api.OpPool || o.Kind > api.OpTick {
		return api.ErrKind
	}
	if o != named(o) {
		return api.ErrForm
	}
	switch o.Kind {
	case api.OpPool:
		return lease.Pool(api.Pool{Prefix: o.Prefix}) // with nothing kept back it is the prefix alone that can be wrong
	case api.OpKeep:
		return addr.Check(o.Addr)
	case api.OpTick:
		return ranged(o.N, 0, api.MaxTime)
	}
	if !name.Right(o.Who) {
		return api.ErrForm
	}
	if o.Kind == api.OpFree {
		return api.OK
	}
	if e := ranged(o.Of, 0, api.MaxPools-1); e != api.OK {
		return e
	}
	return ranged(o.N, 1, api.MaxTtl)
}

// named: an op that has what its kind names, and nothing else.
func named(o api.Op) api.Op {
	n := api.Op{Kind: o.Kind}
	switch o.Kind {
	case api.OpPool:
		n.Prefix = o.Prefix
	case api.OpKeep:
		n.Addr = o.Addr
	case api.OpGrant:
		n.Who, n.Of, n.N = o.Who, o.Of, o.N
	case api.OpFree:
		n.Who = o.Who
	case api.OpTick:
		n.N = o.N
	}
	return n
}

// ranged: a number that must be from least to most.
func ranged(n, least, most int) api.Errno {
	if n < least || n > most {
		return api.ErrRange
	}
	return api.OK
}
