package log_test

import (
	"math"
	"slices"
	"strings"
	"testing"

	"yardarm/api"
	"yardarm/log"
)

// I1: logs that are right.
func TestCheck(t *testing.T) {
	for _, l := range good() {
		checkIs(t, l, api.OK)
	}
}

// I1: too many entries, whatever they are.
func TestCheckMany(t *testing.T) {
	for _, l := range [][]api.Entry{long(31, 1), long(31, 999), make([]api.Entry, 31), make([]api.Entry, 1<<20), slices.Repeat(by(1000), 31)} {
		checkIs(t, l, api.ErrMany)
		replayFails(t, l, api.ErrMany)
	}
}

// badEpochs are those that no entry may have.
var badEpochs = []int{0, -1, 1000, 1001, math.MinInt, math.MaxInt}

// I1: what may be wrong with one entry, at each place.
func TestCheckOne(t *testing.T) {
	for _, l := range good() {
		for i := range l {
			for _, n := range []int{0, -1, i, i + 2, i - 1, math.MinInt, math.MaxInt} {
				checkIs(t, with(l, i, func(n1 *api.Entry) { n1.Number = n }), api.ErrState)
			}
			for _, n := range badEpochs {
				checkIs(t, with(l, i, func(n1 *api.Entry) { n1.Epoch = n }), api.ErrRange)
			}
			if i > 0 && l[i-1].Epoch > 1 {
				checkIs(t, with(l, i, func(n1 *api.Entry) { n1.Epoch = l[i-1].Epoch - 1 }), api.ErrState)
				checkIs(t, with(l, i, func(n1 *api.Entry) { n1.Epoch = 1 }), api.ErrState)
			}
			for want, ops := range wrongOps() {
				for _, o := range ops {
					checkIs(t, with(l, i, func(n1 *api.Entry) { n1.Op = o }), want)
				}
			}
		}
	}
	checkIs(t, by(2, 1), api.ErrState)
	checkIs(t, by(1, 999, 998), api.ErrState)
	checkIs(t, by(1, 3, 2, 3), api.ErrState)
	checkIs(t, of(free(strings.Repeat("a", 1<<20))), api.ErrForm)
}

// faults of an entry, in the order in which they tell; the errors beside each other differ.
var faults = []struct {
	make func(*api.Entry)
	why  api.Errno
}{
	{func(n *api.Entry) { n.Number++ }, api.ErrState},
	{func(n *api.Entry) { n.Epoch = 1000 }, api.ErrRange},
	{func(n *api.Entry) { n.Epoch = 1 }, api.ErrState},
	{func(n *api.Entry) { n.Op = api.Op{Kind: 9} }, api.ErrKind},
}

// spoilt: an entry with some faults (a bit for each), and the error that tells. Of its epoch there can be but one fault.
func spoilt(n api.Entry, some int) (api.Entry, api.Errno) {
	why := api.OK
	for i := len(faults) - 1; i >= 0; i-- {
		if some>>i&1 == 1 {
			faults[i].make(&n)
			why = faults[i].why
		}
	}
	return n, why
}

// I1, P1: many faults: the first entry of which something is wrong tells, and of that one the fault named first.
func TestCheckOrder(t *testing.T) {
	all := 1 << len(faults)
	for some := range all * all * all {
		l, want := by(2, 2, 2, 2), api.OK
		for i := range 3 {
			n, why := spoilt(l[i+1], some>>(i*len(faults))%all)
			l[i+1] = n
			if want == api.OK {
				want = why
			}
		}
		checkIs(t, l, want)
	}
}

// I1: an entry behind all, of the same epoch or of a greater one.
func TestAdd(t *testing.T) {
	ops := []api.Op{addPool(four(8), 30), keep(sixteen(1, 2)), grant("abcdefgh", 2, 500), free("a"), tick(0), tick(9999)}
	for _, l := range good() {
		if len(l) == 30 {
			continue
		}
		last := 1
		if len(l) > 0 {
			last = l[len(l)-1].Epoch
		}
		for _, n := range []int{last, min(last+1, 999), 999} {
			for _, o := range ops {
				addIs(t, l, n, o)
			}
		}
	}
}

// I1: errors of Add, in their order.
func TestAddWrong(t *testing.T) {
	right := tick(5)
	for _, l := range [][]api.Entry{nil, by(1), by(5), by(5, 999), long(29, 999), long(30, 999), long(30, 5), long(30, 1)} {
		for _, n := range badEpochs {
			addFails(t, l, n, right, api.ErrRange)
			for _, ops := range wrongOps() {
				addFails(t, l, n, ops[0], api.ErrRange)
			}
		}
		last := 1
		if len(l) > 0 {
			last = l[len(l)-1].Epoch
		}
		for want, ops := range wrongOps() {
			for _, o := range ops {
				for n := 1; n < last; n += 1 + n/3 {
					addFails(t, l, n, o, api.ErrState)
				}
				addFails(t, l, last, o, want)
				addFails(t, l, 999, o, want)
			}
		}
		if last > 1 {
			addFails(t, l, last-1, right, api.ErrState)
		}
		if len(l) == 30 {
			addFails(t, l, last, right, api.ErrMany)
			addFails(t, l, 999, right, api.ErrMany)
		}
	}
}

// wrong logs by what Check says of them.
func wrong() map[api.Errno][][]api.Entry {
	return map[api.Errno][][]api.Entry{
		api.ErrMany:  {long(31, 1), make([]api.Entry, 1<<16), of(addPool(four(0), 27))},
		api.ErrState: {by(2, 1), with(by(1, 1), 0, func(n *api.Entry) { n.Number = 2 }), {{}}, of(addPool(four(1), 31))},
		api.ErrRange: {by(0), by(1, 1000), of(tick(1), tick(-1)), with(by(1), 0, func(n *api.Entry) { n.Epoch, n.Op = -1, api.Op{} })},
		api.ErrKind:  {of(api.Op{}), of(tick(1), api.Op{Kind: 6})},
		api.ErrForm:  {of(free("")), of(tick(1), grant("A", 9, 9))},
	}
}

// I1, P1: a log that is wrong tells ahead of whatever else is wrong.
func TestWrongLog(t *testing.T) {
	for want, logs := range wrong() {
		for _, l := range logs {
			checkIs(t, l, want)
			replayFails(t, l, want)
			for _, n := range []int{1, 2, 0, 1000} {
				addFails(t, l, n, tick(5), want)
				addFails(t, l, n, api.Op{}, want)
				addFails(t, l, n, free(""), want)
			}
			for _, b := range good() {
				beginsIs(t, l, b, false, want)
				beginsIs(t, b, l, false, want)
			}
			beginsIs(t, l, l, false, want)
			for _, others := range wrong() {
				beginsIs(t, l, others[0], false, want)
			}
		}
	}
}

// I1: beginnings, all of it too; nothing begins every log.
func TestBegins(t *testing.T) {
	for _, l := range good() {
		for n := range len(l) + 1 {
			for m := range len(l) + 1 {
				beginsIs(t, l[:n], slices.Clone(l[:m]), n <= m, api.OK)
			}
		}
		beginsIs(t, nil, l, true, api.OK)
		beginsIs(t, []api.Entry{}, l, true, api.OK)
	}
}

// I1: an entry that is another one, by whichever field and at whichever place: then it is no beginning; behind what begins it does not matter.
func TestBeginsOther(t *testing.T) {
	l := of(addPool(four(8), 30), keep(four(8)), grant("a", 0, 5), free("a"), tick(5), grant("b", 1, 5))
	for i := range l {
		l[i].Epoch = 2 + 2*i
	}
	for i, o := range []api.Op{addPool(four(8), 31), keep(four(9)), grant("b", 0, 5), free("b"), tick(6), grant("b", 1, 6)} {
		other := with(l, i, func(n *api.Entry) { n.Op = o })
		later := with(l, i, func(n *api.Entry) { n.Epoch++ })
		for n := range len(l) + 1 {
			for _, x := range [][]api.Entry{other, later} {
				beginsIs(t, x[:n], l, n <= i, api.OK)
				beginsIs(t, l[:n], x, n <= i, api.OK)
			}
		}
	}
	for _, x := range [][2]api.Op{{addPool(four(0), 32), addPool(sixteen(0, 0), 128)}, {keep(four(0)), keep(sixteen(0, 0))}, {keep(sixteen(0, 1)), keep(sixteen(1, 1))}, {grant("a", 0, 5), grant("a", 1, 5)}, {tick(0), keep(four(0))}} {
		beginsIs(t, of(x[0]), of(x[1]), false, api.OK)
		beginsIs(t, of(x[1]), of(x[0]), false, api.OK)
	}
}

// wild numbers, most of them wrong.
func wild(d *draw) int {
	return []int{math.MinInt, -1, 0, 1, 2, 3, 5, 30, 31, 32, 998, 999, 1000, 9999, math.MaxInt}[d.below(15)]
}

// P1: whatever comes in, no call panics, and there is nothing beside an error.
func TestWild(t *testing.T) {
	var d draw = 3
	for range 20000 {
		var l []api.Entry
		for i := range d.below(4) {
			o := api.Op{Kind: d.below(7), Prefix: prefix(api.Addr{V6: d.below(2) == 0, Lo: uint64(wild(&d))}, wild(&d)), Who: []string{"", "a", "\xff"}[d.below(3)], Of: wild(&d), N: wild(&d)}
			l = append(l, api.Entry{Number: i + 1, Epoch: wild(&d), Op: o})
			if d.below(2) == 0 {
				l[i].Op = mixed()[d.below(15)].Op
			}
		}
		e := log.Check(l)
		if x, f := log.Add(l, wild(&d), tick(wild(&d))); f != api.OK && len(x) > 0 || f == api.OK && e != api.OK {
			t.Fatalf("Add to %v: %v %d", l, x, f)
		}
		if e != api.OK {
			replayFails(t, l, e)
			beginsIs(t, l, nil, false, e)
		}
	}
}
