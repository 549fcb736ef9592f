// Package order: where prefixes and addresses stand. Every layer that sorts prefixes, or asks for the one of an address, asks here, so that all of them hold to one order.
package order

import (
	"cmp"

	"yardarm/addr"
	"yardarm/api"
	"yardarm/prefix"
)

// Compare two prefixes that are right: below 0, if p rises ahead of q (B2), above 0, if q does, 0, if they are one.
func Compare(p, q api.Prefix) int {
	if Less(p.Addr, q.Addr) {
		return -1
	}
	if Less(q.Addr, p.Addr) {
		return 1
	}
	return cmp.Compare(p.Bits, q.Bits)
}

// Within: is an address one of those of a prefix? Both are right. One of the other kind is never between the ends, as all of one kind stand ahead of all of the other.
func Within(a api.Addr, p api.Prefix) bool {
	first, last, _ := prefix.Ends(p)
	return !Less(a, first) && !Less(last, a)
}

// Less: does an address stand ahead of another one (A3)? There is no error to tell: who asks has looked at both already.
func Less(a, b api.Addr) bool {
	ahead, _ := addr.Less(a, b)
	return ahead
}
