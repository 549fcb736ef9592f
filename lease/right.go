package lease

import (
	"yardarm/addr"
	"yardarm/api"
	"yardarm/name"
	"yardarm/order"
	"yardarm/prefix"
)

// look at leases that come in, and at the time: whether they rise is asked of leases that are right, all of them.
func look(l []api.Lease, now int) api.Errno {
	if len(l) > api.MaxLeases {
		return api.ErrMany
	}
	for _, one := range l {
		if e := right(one); e != api.OK {
			return e
		}
	}
	for i := 1; i < len(l); i++ {
		if !order.Less(l[i-1].Addr, l[i].Addr) {
			return api.ErrState
		}
	}
	if now < 0 || now > api.MaxTime {
		return api.ErrRange
	}
	return api.OK
}

// right: is a lease right?
func right(l api.Lease) api.Errno {
	if e := addr.Check(l.Addr); e != api.OK {
		return e
	}
	if !name.Right(l.Who) {
		return api.ErrForm
	}
	if l.Until < 0 || l.Until > api.MaxTime+api.MaxTtl {
		return api.ErrRange
	}
	return api.OK
}

// wide: has a prefix that is right more addresses than a pool may have? Its ends tell; their lesser halves are enough, as these are furthest apart where the greater ones are not the same.
func wide(p api.Prefix) bool {
	first, last, _ := prefix.Ends(p)
	return last.Lo-first.Lo >= 1<<api.MaxWide
}
