package span

import (
	"slices"

	"yardarm/api"
	"yardarm/order"
	"yardarm/prefix"
)

// norm of prefixes that are right, however many: what is cut may be more than may come in.
func norm(l []api.Prefix) []api.Prefix {
	sorted := slices.Clone(l)
	slices.SortFunc(sorted, order.Compare)
	var out []api.Prefix
	for _, p := range sorted {
		out = put(out, p)
	}
	return out
}

// put a prefix behind a norm of prefixes that all rise ahead of it: so only the last one can have it, or be the other half of it, and a whole that they make may be a half again.
func put(l []api.Prefix, p api.Prefix) []api.Prefix {
	if len(l) == 0 {
		return append(l, p)
	}
	end := len(l) - 1
	if has(l[end], p) {
		return l
	}
	if w, e := prefix.Whole(l[end], p); e == api.OK {
		return put(l[:end], w)
	}
	return append(l, p)
}

// cut p out of q: what is left of q. If neither all nor nothing is left, q has more addresses than p, so it has halves.
func cut(q, p api.Prefix) []api.Prefix {
	if has(p, q) {
		return nil
	}
	if !has(q, p) {
		return []api.Prefix{q}
	}
	lesser, greater, _ := prefix.Halves(q)
	return slices.Concat(cut(lesser, p), cut(greater, p))
}

// has tells no error: both prefixes were looked at when they came in.
func has(p, q api.Prefix) bool {
	ok, _ := prefix.Has(p, q)
	return ok
}
