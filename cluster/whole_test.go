package cluster_test

import (
	"slices"
	"testing"

	"yardarm/addr"
	"yardarm/api"
	"yardarm/cluster"
	"yardarm/fence"
	"yardarm/lease"
	"yardarm/log"
	"yardarm/pick"
	"yardarm/prefix"
	"yardarm/ship"
	"yardarm/span"
	"yardarm/state"
	"yardarm/text"
)

// Here stand the tests of what the whole promises, line by line, of chapters that only the whole brings together.

// anAddr of either kind, some of whose groups of two bytes are 0.
func anAddr(d *draw) api.Addr {
	var n [8]uint64
	for i := range n {
		n[i] = uint64([]int{0, 0, d.below(16), d.below(1 << 16)}[d.below(4)])
	}
	if d.below(3) == 0 {
		return four(n[0]<<16 | n[1])
	}
	return sixteen(n[0]<<48|n[1]<<32|n[2]<<16|n[3], n[4]<<48|n[5]<<32|n[6]<<16|n[7])
}

// width: how many bits an address has.
func width(a api.Addr) int {
	if a.V6 {
		return 128
	}
	return 32
}

// aPrefix of an address: its first bits, told by going down from all addresses to the half that has it.
func aPrefix(t *testing.T, a api.Addr, bits int) api.Prefix {
	t.Helper()
	p := api.Prefix{Addr: api.Addr{V6: a.V6}}
	for p.Bits < bits {
		low, high, e := prefix.Halves(p)
		if e != api.OK {
			t.Fatalf("Halves of %v: %d", p, e)
		}
		p = low
		if up, _ := addr.Less(a, high.Addr); !up {
			p = high
		}
	}
	return p
}

// Line 1: what is printed is parsed as it was: addresses, prefixes, and ops that have them.
func TestPrintedIsParsed(t *testing.T) {
	var d draw
	for range 5000 {
		a := anAddr(&d)
		p := aPrefix(t, a, d.below(width(a)+1))
		small := aPrefix(t, a, width(a)-d.below(5))
		s, e := addr.Print(a)
		if b, f := addr.Parse(s); b != a || e != api.OK || f != api.OK {
			t.Errorf("%v is printed as %q, and that parsed as %v: %d %d", a, s, b, e, f)
		}
		s, e = prefix.Print(p)
		if q, f := prefix.Parse(s); q != p || e != api.OK || f != api.OK {
			t.Errorf("%v is printed as %q, and that parsed as %v: %d %d", p, s, q, e, f)
		}
		for _, o := range []api.Op{addPool(small.Addr, small.Bits), keep(a), grant("a0z", d.below(3), 1+d.below(500)), free("z9"), tick(d.below(10000))} {
			s, e = text.Print(o)
			if x, f := text.Parse(s); x != o || e != api.OK || f != api.OK {
				t.Errorf("%v is printed as %q, and that parsed as %v: %d %d", o, s, x, e, f)
			}
		}
	}
}

// Line 1: what could not be printed is not parsed: texts that are beside those of prints.
func TestUnprintedIsRefused(t *testing.T) {
	for _, s := range []string{"", " ", "1.2.3", "1.2.3.4.5", "1.2.3.256", "01.2.3.4", ":", ":::", "1:2:3:4:5:6:7", "1:2:3:4:5:6:7:8:9", "1::2::3", "12345::", "g::", "::1.2.3"} {
		if a, e := addr.Parse(s); a != (api.Addr{}) || e != api.ErrForm {
			t.Errorf("%q is parsed as %v: %d", s, a, e)
		}
		if p, e := prefix.Parse(s + "/1"); p != (api.Prefix{}) || e != api.ErrForm {
			t.Errorf("%q is parsed as %v: %d", s+"/1", p, e)
		}
		for _, kind := range []string{"", "keep ", "pool ", "keep 1.2.3.4 ", "free A", "tick 0"} {
			if o, e := text.Parse(kind + s); s != "" && (o != api.Op{} || e != api.ErrForm) {
				t.Errorf("%q is parsed as %v: %d", kind+s, o, e)
			}
		}
	}
}

// apart: do all addresses of one prefix stand ahead of those of the other one?
func apart(p, q api.Prefix) bool {
	_, last, _ := prefix.Ends(p)
	first, _, _ := prefix.Ends(q)
	ahead, _ := addr.Less(last, first)
	return ahead
}

// Line 2: of two prefixes one has the other one, or they have no address in common, by where they begin and end: never both, and never neither.
func TestOneHasTheOtherOrNothing(t *testing.T) {
	var d draw
	met := [2]int{}
	for range 5000 {
		a := anAddr(&d)
		b := a
		if d.below(2) == 0 {
			b.Lo ^= uint64(1) << d.below(32)
		} else if d.below(2) == 0 {
			b = anAddr(&d)
		}
		p, q := aPrefix(t, a, d.below(width(a)+1)), aPrefix(t, b, d.below(width(b)+1))
		has, e := prefix.Has(p, q)
		had, f := prefix.Has(q, p)
		if e != api.OK || f != api.OK || (has || had) == (apart(p, q) || apart(q, p)) || has && had && p != q {
			t.Errorf("%v has %v: %v %d; the other way %v %d", p, q, has, e, had, f)
		}
		if has || had {
			met[0]++
		} else {
			met[1]++
		}
	}
	if met[0] < 500 || met[1] < 500 {
		t.Errorf("%v: too few to tell", met)
	}
}

// Line 2: of lists with the same addresses, cut in other pieces, turned about and with some pieces twice, the norm is the same; of another list it is another one.
func TestNormIsOne(t *testing.T) {
	var d draw
	for range 3000 {
		a := anAddr(&d)
		var l, m []api.Prefix
		for range 3 {
			a.Lo ^= uint64(d.below(8))
			p := aPrefix(t, a, width(a)-d.below(4))
			l, m = append(l, p), slices.Insert(m, d.below(len(m)+1), p)
			if x, y, e := prefix.Halves(p); e == api.OK && d.below(2) == 0 {
				m = append(slices.DeleteFunc(m, func(q api.Prefix) bool { return q == p }), y, x, y)
			}
		}
		x, e := span.Norm(l)
		y, f := span.Norm(m)
		if !slices.Equal(x, y) || len(x) == 0 || e != api.OK || f != api.OK {
			t.Errorf("norms of %v and %v: %v %d, %v %d", l, m, x, e, y, f)
		}
		less, _ := span.Minus(l, l[0])
		if z, _ := span.Norm(less); slices.Equal(x, z) {
			t.Errorf("norms of %v and of %v: %v", l, less, z)
		}
	}
}

// meets: has a prefix an address in common with one of a list?
func meets(p api.Prefix, used []api.Prefix) bool {
	return slices.ContainsFunc(used, func(u api.Prefix) bool { return !apart(p, u) && !apart(u, p) })
}

// Line 3: what is picked, and all that is free, is in the pool, and in nobody's way; if nothing is, everything is in somebody's way.
func TestPicked(t *testing.T) {
	var d draw
	met := map[api.Errno]int{}
	for range 3000 {
		a := anAddr(&d)
		top := aPrefix(t, a, width(a)-4)
		var used []api.Prefix
		for range d.below(9) {
			b := top.Addr
			b.Lo += uint64(d.below(18))
			if addr.Check(b) == api.OK {
				used = append(used, aPrefix(t, b, width(b)-d.below(3)))
			}
		}
		bits := top.Bits + d.below(5)
		p, e := pick.First(top, used, bits)
		free, f := pick.Free(top, used)
		if met[e]++; f != api.OK {
			t.Errorf("Free of %v and %v: %d", top, used, f)
		}
		for _, q := range append(free, p) {
			in, _ := prefix.Has(top, q)
			if (q != p || e == api.OK) && (!in || meets(q, used)) {
				t.Errorf("%v is picked of %v, and there are %v", q, top, used)
			}
		}
		for n := range uint64(1) << (bits - top.Bits) {
			b := top.Addr
			b.Lo += n << (width(b) - bits)
			q := aPrefix(t, b, bits)
			if ahead, _ := addr.Less(q.Addr, p.Addr); (e != api.OK || ahead) && !meets(q, used) {
				t.Errorf("%v %d is picked of %v, and there are %v, but not %v", p, e, top, used, q)
			}
		}
	}
	if met[api.OK] < 500 || met[api.ErrFull] < 100 || len(met) != 2 {
		t.Errorf("%v: too few to tell", met)
	}
}

// once: no address is leased twice, and nobody has two.
func once(t *testing.T, l []api.Lease) {
	t.Helper()
	for i, x := range l {
		for _, y := range l[:i] {
			if x.Addr == y.Addr || x.Who == y.Who {
				t.Fatalf("%v and %v in %v", x, y, l)
			}
		}
	}
}

// Line 4: leases of one pool: none twice; who asks again has the same one, longer, and nothing else changes.
func TestLeasedOnce(t *testing.T) {
	var d draw
	again := 0
	for range 500 {
		a := anAddr(&d)
		top := aPrefix(t, a, width(a)-3)
		p := api.Pool{Prefix: top, Kept: []api.Addr{top.Addr}}
		var l []api.Lease
		now := 0
		for range 30 {
			now += d.below(2)
			who := string([]byte{byte('a' + d.below(10))})
			m, b, e := lease.Grant(p, l, who, now, 5)
			if e != api.OK {
				continue
			}
			once(t, m)
			x, c, f := lease.Grant(p, m, who, now, 9)
			if c != b || f != api.OK || b == top.Addr || len(x) != len(m) {
				t.Fatalf("%s has %v, and asking again %v %d", who, b, c, f)
			}
			once(t, x)
			again++
			l = m
		}
	}
	if again < 5000 {
		t.Errorf("%d asked again: too few to tell", again)
	}
}

// Line 4: what is granted in a state: the same, over all pools; who has an address of one gets none of another one.
func TestGrantedOnce(t *testing.T) {
	var d draw
	again := 0
	for range 500 {
		var s api.State
		for range 60 {
			o := anOp(&d)
			x, a, e := state.Do(s, o)
			if e != api.OK {
				continue
			}
			s = x
			once(t, s.Leases)
			if o.Kind != api.OpGrant {
				continue
			}
			again++
			if y, b, f := state.Do(s, o); b != a || f != api.OK || !likeState(y, s) {
				t.Fatalf("%v in %v: %v, and asking again %v %d", o, s, a, b, f)
			}
			other := o
			other.Of = (o.Of + 1) % len(s.Pools)
			if _, b, f := state.Do(s, other); len(s.Pools) > 1 && (b != api.Addr{} || f != api.ErrTwice) {
				t.Fatalf("%v in %v: %v %d", other, s, b, f)
			}
		}
	}
	if again < 2000 {
		t.Errorf("%d asked again: too few to tell", again)
	}
}

// Line 5: a longer log replays what a shorter one did, and then more: what each entry answered stays, and the state goes on from there.
func TestLongerReplays(t *testing.T) {
	var d draw
	for range 200 {
		var l []api.Entry
		var s api.State
		var told []api.Addr
		for n := range api.MaxLog {
			m, e := log.Add(l, 1+n/7, anOp(&d))
			now, more, f := log.Replay(m)
			if e != api.OK || f != api.OK || len(more) != n+1 || !slices.Equal(more[:n], told) {
				t.Fatalf("%v told %v, and then %v: %d %d", m, told, more, e, f)
			}
			if x, a, e := state.Do(s, m[n].Op); e == api.OK && (!likeState(now, x) || more[n] != a) || e != api.OK && (!likeState(now, s) || more[n] != api.Addr{}) {
				t.Fatalf("from %v by %v: %v %v", s, m[n], now, more[n])
			}
			l, s, told = m, now, more
		}
	}
}

// Line 6: nobody writes by an elder epoch, whatever it believes, nor by one that there never was; the last one alone writes.
func TestNoElderEpoch(t *testing.T) {
	var r draw
	for range 100 {
		var d api.Disk
		now := 0
		for range 60 {
			now += r.below(9)
			if x, _, e := fence.Acquire(d, 1+r.below(2), now); e == api.OK {
				d = x
			}
			for n := -2; n <= d.Epoch+2; n++ {
				x, e := fence.Write(d, n, tick(now))
				if can := n == d.Epoch && n > 0 && len(d.Log) < api.MaxLog; can != (e == api.OK) {
					t.Fatalf("epoch %d writes to %v: %d", n, d, e)
				}
				if e == api.OK && r.below(2) == 0 {
					d = x
				}
			}
		}
	}
}

// Line 7: a copy that takes what comes next is a beginning of the log, whenever it comes and however much; and not longer than that.
func TestCopyBegins(t *testing.T) {
	var d draw
	for range 300 {
		var l, have []api.Entry
		for len(have) < api.MaxLog {
			for range d.below(4) {
				if m, e := log.Add(l, 1+len(l), anOp(&d)); e == api.OK {
					l = m
				}
			}
			many := d.below(4)
			more, e := ship.Next(have, l, many)
			x, f := ship.Take(have, more)
			if begins, g := log.Begins(x, l); !begins || e != api.OK || f != api.OK || g != api.OK || len(x) != min(len(have)+many, len(l)) {
				t.Fatalf("%v takes %v of %v: %v %d %d", have, more, l, x, e, f)
			}
			if _, e := ship.Take(x, more); len(more) > 0 && e == api.OK {
				t.Fatalf("%v takes %v again", x, more)
			}
			have = x
		}
	}
}

// stage on which a story of the whole is played: the cluster as it is, and what it was.
type stage struct {
	t *testing.T
	c api.Cluster
	p past
}

// play an event, and look at all that must hold behind it.
func (s *stage) play(v api.Event, want bool) {
	s.t.Helper()
	x, done, e := cluster.Do(s.c, v)
	if e != api.OK || done != want {
		s.t.Fatalf("%v in %v: %v %d, and must be %v", v, s.c, done, e, want)
	}
	s.c = x
	s.p.goes(s.t, x)
	s.p.told(s.t, x, 1)
	s.p.told(s.t, x, 2)
	if writers(s.t, x) > 1 {
		s.t.Fatalf("both can write in %v", x)
	}
	for who := 1; who <= 2; who++ {
		seen, _ := cluster.Seen(x, who)
		once(s.t, seen.Leases)
	}
}

// happen, one by one: events that are done.
func (s *stage) happen(l ...api.Event) {
	s.t.Helper()
	for _, v := range l {
		s.play(v, true)
	}
}

// tell a node ops by their texts.
func (s *stage) tell(who int, want bool, l ...string) {
	s.t.Helper()
	for _, x := range l {
		o, e := text.Parse(x)
		if e != api.OK {
			s.t.Fatalf("Parse of %q: %d", x, e)
		}
		s.play(write(who, o), want)
	}
}

// Line 8, and all that are ahead of it: ops go in as texts, by the node that may write; what was written stays, in order; one node at a time can write; and what each has seen has no address twice.
func TestWholeStory(t *testing.T) {
	s := stage{t: t, c: cluster.New()}
	first := []string{"pool 10.0.0.8/30", "keep 10.0.0.8", "grant ann 0 20", "grant ann 0 30", "grant bob 0 20"}
	s.tell(1, false, first...)
	s.happen(lock(1))
	s.tell(2, false, first...)
	s.tell(1, true, first...)
	s.play(lock(2), false)
	s.happen(later(11), send(2, 4), lock(2), send(2, 30))
	s.tell(1, false, "free ann")
	s.tell(2, true, "pool 2001:db8::/126", "grant ann 1 9", "tick 11")
	s.play(lock(1), false)
	s.happen(reset(2), send(1, 30))
	s.tell(2, false, "grant cy 0 5")
	s.happen(lock(2))
	s.tell(2, true, "grant cy 0 5")
	s.happen(send(2, 8))
	ten := api.Pool{Prefix: api.Prefix{Addr: four(0x0a000008), Bits: 30}, Kept: []api.Addr{four(0x0a000008)}}
	six := api.Pool{Prefix: api.Prefix{Addr: sixteen(0x20010db8<<32, 0), Bits: 126}}
	l := []api.Lease{{Addr: four(0x0a000009), Who: "ann", Until: 30}, {Addr: four(0x0a00000a), Who: "bob", Until: 20}}
	before := api.State{Pools: []api.Pool{ten, six}, Leases: l, Now: 11}
	after := before
	after.Leases = append(slices.Clone(l), api.Lease{Addr: four(0x0a00000b), Who: "cy", Until: 16})
	seenIs(t, s.c, 1, before)
	seenIs(t, s.c, 2, before)
	s.happen(send(1, 1))
	seenIs(t, s.c, 1, after)
	seenIs(t, s.c, 2, before)
}
