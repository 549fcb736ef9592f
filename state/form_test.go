package state_test

import (
	"math"
	"strings"
	"testing"

	"yardarm/api"
)

// goodOps: of each kind, to the ends of what may be.
func goodOps() []api.Op {
	return []api.Op{
		addPool(four(8), 30), addPool(four(0), 28), addPool(four(math.MaxUint32), 32), addPool(sixteen(0, 0), 124), addPool(sixteen(math.MaxUint64, math.MaxUint64), 128),
		keep(four(0)), keep(four(math.MaxUint32)), keep(sixteen(0, 0)), keep(sixteen(math.MaxUint64, math.MaxUint64)),
		grant("a", 0, 1), grant("abcdefgh", 2, 500), grant("0", 1, 499), grant("z9", 0, 500),
		free("a"), free("abcdefgh"), free("09"),
		tick(0), tick(1), tick(9999),
	}
}

// G2: ops that are right.
func TestForm(t *testing.T) {
	for _, o := range goodOps() {
		formIs(t, o, api.OK)
	}
}

// G2: no such kind, whatever else there is.
func TestKind(t *testing.T) {
	for _, k := range []int{0, -1, 6, 7, math.MinInt, math.MaxInt} {
		for _, o := range append(goodOps(), api.Op{}, api.Op{Prefix: prefix(noAddr, -1), Addr: noAddr, Who: "?", Of: -1, N: -1}) {
			o.Kind = k
			formIs(t, o, api.ErrKind)
		}
	}
}

// more: what a field may be beside nothing, right for another kind or not.
var more = map[string][]func(*api.Op){
	"prefix": {
		func(o *api.Op) { o.Prefix = prefix(four(8), 30) }, func(o *api.Op) { o.Prefix.Bits = 32 }, func(o *api.Op) { o.Prefix.Bits = -1 },
		func(o *api.Op) { o.Prefix.Addr.V6 = true }, func(o *api.Op) { o.Prefix.Addr.Hi = 1 }, func(o *api.Op) { o.Prefix.Addr.Lo = 1 },
	},
	"addr": {func(o *api.Op) { o.Addr.V6 = true }, func(o *api.Op) { o.Addr.Hi = 1 }, func(o *api.Op) { o.Addr.Lo = 1 }},
	"who":  {func(o *api.Op) { o.Who = "a" }, func(o *api.Op) { o.Who = "?" }, func(o *api.Op) { o.Who = " " }},
	"of":   {func(o *api.Op) { o.Of = 1 }, func(o *api.Op) { o.Of = -1 }, func(o *api.Op) { o.Of = math.MaxInt }},
	"n":    {func(o *api.Op) { o.N = 1 }, func(o *api.Op) { o.N = -1 }, func(o *api.Op) { o.N = math.MinInt }},
}

// names: which fields a kind names.
var names = map[int]string{api.OpPool: "prefix", api.OpKeep: "addr", api.OpGrant: "who of n", api.OpFree: "who", api.OpTick: "n"}

// G2: whatever a kind does not name is wrong, and that comes ahead of all but the kind.
func TestMore(t *testing.T) {
	wrong := []api.Op{addPool(noAddr, 33), addPool(four(0), 0), keep(noAddr), grant("?", -1, -1), grant("a", 3, 501), free(""), tick(-1), {Kind: api.OpPool}, {Kind: api.OpKeep}, {Kind: api.OpGrant}}
	for _, o := range append(goodOps(), wrong...) {
		for field, changes := range more {
			for _, change := range changes {
				if p := o; !strings.Contains(names[o.Kind], field) {
					change(&p)
					formIs(t, p, api.ErrForm)
				}
			}
		}
	}
}

// G2: what a kind names, and is wrong, to what is right beside the edges.
func TestNamed(t *testing.T) {
	for want, l := range map[api.Errno][]api.Op{
		api.ErrRange: {
			addPool(noAddr, 32), addPool(four(1<<32), 32), addPool(four(0), 33), addPool(four(0), -1), addPool(sixteen(0, 0), 129), addPool(four(1), 33),
			keep(noAddr), keep(four(1 << 32)),
			grant("a", -1, 5), grant("a", 3, 5), grant("a", math.MinInt, 5), grant("a", math.MaxInt, 5), grant("a", 0, 0), grant("a", 0, 501), grant("a", 0, -1), grant("a", 2, math.MaxInt), grant("a", 2, math.MinInt), grant("a", 3, 0),
			tick(-1), tick(10000), tick(math.MinInt), tick(math.MaxInt),
		},
		api.ErrState: {addPool(four(1), 31), addPool(four(9), 30), addPool(four(1), 0), addPool(sixteen(0, 1), 127), addPool(sixteen(1, 0), 0)},
		api.ErrMany:  {addPool(four(0), 27), addPool(four(0), 0), addPool(sixteen(0, 0), 123), addPool(sixteen(0, 0), 0), addPool(sixteen(1, 0), 64), {Kind: api.OpPool}},
		api.ErrForm:  {grant("", 0, 5), grant("A", 0, 5), grant("abcdefghi", 0, 5), grant("a b", 0, 5), grant("é", -1, -1), grant("?", 3, 501), free(""), free("abcdefghi"), free("a "), free("\x00"), {Kind: api.OpGrant}, {Kind: api.OpFree}},
		api.OK:       {{Kind: api.OpKeep}, {Kind: api.OpTick}},
	} {
		for _, o := range l {
			formIs(t, o, want)
		}
	}
}
