package lease_test

import (
	"math"
	"reflect"
	"slices"
	"testing"

	"yardarm/api"
	"yardarm/lease"
)

// F3: the document's example: with the first one kept back, who asks first has the next one, and asking again has it again, longer.
func TestExample(t *testing.T) {
	p := pool(four(0x0a000008), 30, four(0x0a000008))
	l := leases(p, held{1, "a", 13})
	grantIs(t, p, nil, "a", 10, 3, l, four(0x0a000009), api.OK)
	grantIs(t, p, l, "a", 12, 5, leases(p, held{1, "a", 17}), four(0x0a000009), api.OK)
	grantIs(t, p, l, "b", 12, 5, leases(p, held{1, "a", 13}, held{2, "b", 17}), four(0x0a00000a), api.OK)
}

// F3: which address, by examples: what is kept back and what is leased is passed by; leases that are over go, and make room.
func TestGrant(t *testing.T) {
	p := pool(four(8), 30, four(9))
	full := leases(p, held{0, "a", 20}, held{2, "b", 15}, held{3, "c", 30})
	grantIs(t, p, full, "d", 15, 1, nil, nowhere, api.ErrFull)
	grantIs(t, p, full, "d", 16, 1, leases(p, held{0, "a", 20}, held{2, "d", 17}, held{3, "c", 30}), four(10), api.OK)
	grantIs(t, p, full, "d", 21, 1, leases(p, held{0, "d", 22}, held{3, "c", 30}), four(8), api.OK)
	grantIs(t, p, full, "d", 31, 1, leases(p, held{0, "d", 32}), four(8), api.OK)
	grantIs(t, p, full[:2], "d", 15, 1, leases(p, held{0, "a", 20}, held{2, "b", 15}, held{3, "d", 16}), four(11), api.OK)
	grantIs(t, p, full[1:], "d", 15, 1, leases(p, held{0, "d", 16}, held{2, "b", 15}, held{3, "c", 30}), four(8), api.OK)
	all := pool(four(8), 31, four(8), four(9))
	grantIs(t, all, nil, "d", 15, 1, nil, nowhere, api.ErrFull)
	grantIs(t, all, leases(all, held{1, "a", 3}), "a", 4, 1, nil, nowhere, api.ErrFull)
}

// F3: who has a lease has it till now and ttl, be that earlier; at Until itself it has it still, behind that the lease is gone, and another address may be the first one. One that is kept back by now stays with who has it, till that lease is over.
func TestAskAgain(t *testing.T) {
	p := pool(four(8), 30)
	l := leases(p, held{2, "a", 20}, held{3, "b", 400})
	grantIs(t, p, l, "a", 20, 5, leases(p, held{2, "a", 25}, held{3, "b", 400}), four(10), api.OK)
	grantIs(t, p, l, "a", 21, 5, leases(p, held{0, "a", 26}, held{3, "b", 400}), four(8), api.OK)
	grantIs(t, p, l, "b", 5, 1, leases(p, held{2, "a", 20}, held{3, "b", 6}), four(11), api.OK)
	kept := pool(four(8), 30, four(8), four(10))
	grantIs(t, kept, l, "a", 20, 5, leases(p, held{2, "a", 25}, held{3, "b", 400}), four(10), api.OK)
	grantIs(t, kept, l, "a", 21, 5, leases(p, held{1, "a", 26}, held{3, "b", 400}), four(9), api.OK)
	full := leases(p, held{0, "a", 9}, held{1, "b", 9}, held{2, "c", 9}, held{3, "d", 9})
	for i, who := range []string{"a", "b", "c", "d"} {
		want := slices.Clone(full)
		want[i].Until = 14
		grantIs(t, p, full, who, 9, 5, want, at(p, uint64(i)), api.OK)
	}
}

// F3: errors behind those of Check: who, then ttl, both ahead of there being no address left.
func TestGrantWrong(t *testing.T) {
	none := pool(four(8), 32, four(8))
	some := pool(four(8), 30)
	for _, p := range []api.Pool{none, some} {
		for _, ttl := range []int{-1, 0, 501, math.MinInt, math.MaxInt} {
			grantIs(t, p, nil, "", 5, ttl, nil, nowhere, api.ErrForm)
			grantIs(t, p, nil, "a", 5, ttl, nil, nowhere, api.ErrRange)
			grantIs(t, p, leases(p, held{0, "a", 7}), "a", 5, ttl, nil, nowhere, api.ErrRange)
		}
		grantIs(t, p, nil, "?", 5, 1, nil, nowhere, api.ErrForm)
	}
	grantIs(t, none, nil, "a", 5, 1, nil, nowhere, api.ErrFull)
	grantIs(t, some, nil, "a", 0, 1, leases(some, held{0, "a", 1}), four(8), api.OK)
	grantIs(t, some, nil, "a", 9999, 500, leases(some, held{0, "a", 10499}), four(8), api.OK)
}

// F3, F4: one asks after the other till nothing is left: addresses rise, none is kept back, none comes twice.
func TestGrantTillFull(t *testing.T) {
	for _, p := range pools() {
		var l []api.Lease
		for i := range many(p) {
			a := at(p, uint64(i))
			if slices.Contains(p.Kept, a) {
				continue
			}
			who := string([]byte{'n', byte('a' + i)})
			want := append(slices.Clone(l), api.Lease{Addr: a, Who: who, Until: 105})
			grantIs(t, p, l, who, 5, 100, want, a, api.OK)
			checkIs(t, p, want, 5, api.OK)
			l = want
		}
		grantIs(t, p, l, "last", 5, 100, nil, nowhere, api.ErrFull)
		grantIs(t, p, l, "last", 105, 100, nil, nowhere, api.ErrFull)
		if len(l) > 0 {
			grantIs(t, p, l, "last", 106, 1, []api.Lease{{Addr: l[0].Addr, Who: "last", Until: 107}}, l[0].Addr, api.OK)
		}
	}
}

// book: who has which place of a pool, told by places alone, and so by nothing that the program grants with.
type book struct {
	kept []bool
	who  []string
	till []int
}

func (b *book) ask(who string, now, ttl int) (int, bool) {
	first := -1
	for i, name := range b.who {
		if name != "" && b.till[i] < now {
			b.who[i], name = "", ""
		}
		if name == "" && !b.kept[i] && first < 0 {
			first = i
		}
	}
	if i := slices.Index(b.who, who); i >= 0 {
		first = i
	}
	if first < 0 {
		return 0, false
	}
	b.who[first], b.till[first] = who, now+ttl
	return first, true
}

func (b *book) leases(p api.Pool) []api.Lease {
	var l []api.Lease
	for i, who := range b.who {
		if who != "" {
			l = append(l, leases(p, held{uint64(i), who, b.till[i]})...)
		}
	}
	return l
}

// F3, F4: long stories, whoever asks: what is granted is what the book says, and is right.
func TestStories(t *testing.T) {
	var d draw
	for _, p := range pools() {
		for range 20 {
			b := book{make([]bool, many(p)), make([]string, many(p)), make([]int, many(p))}
			for i := range b.kept {
				b.kept[i] = slices.Contains(p.Kept, at(p, uint64(i)))
			}
			var l []api.Lease
			for now := 0; now < 100; now += d.below(4) {
				who := string([]byte{byte('a' + d.below(20))})
				ttl := 1 + d.below(40)
				place, ok := b.ask(who, now, ttl)
				if !ok {
					grantIs(t, p, l, who, now, ttl, nil, nowhere, api.ErrFull)
					continue
				}
				want := b.leases(p)
				grantIs(t, p, l, who, now, ttl, want, at(p, uint64(place)), api.OK)
				checkIs(t, p, want, now, api.OK)
				dropIs(t, want, now, want, 0, api.OK)
				l = want
			}
		}
	}
}

// P2, P3: what comes in is only read, the room behind the lists too; answers are the caller's, and the same each time.
func TestOnlyRead(t *testing.T) {
	room := append(leases(pool(four(8), 30), held{0, "a", 4}, held{1, "b", 9}, held{3, "d", 9}), api.Lease{Who: "behind"}, api.Lease{Who: "behind"})
	kept := []api.Addr{four(10), four(77)}
	wasRoom, wasKept := slices.Clone(room), slices.Clone(kept)
	p := pool(four(8), 30, kept[:1]...)
	type answer struct {
		drop, again, anew []api.Lease
		gone              int
		a, b              api.Addr
	}
	ask := func(n, now int) (z answer) {
		z.drop, z.gone, _ = lease.Drop(room[:n], now)
		z.again, z.a, _ = lease.Grant(p, room[:n], "b", now, 7)
		z.anew, z.b, _ = lease.Grant(p, room[:n], "c", now, 7)
		lease.Check(p, room[:n], now)
		lease.Pool(p)
		return z
	}
	for _, n := range []int{0, 1, 2, 3} {
		for _, now := range []int{3, 5, 9} {
			first, second := ask(n, now), ask(n, now)
			was := first
			was.drop, was.again, was.anew = slices.Clone(first.drop), slices.Clone(first.again), slices.Clone(first.anew)
			for _, l := range [][]api.Lease{second.drop, second.again, second.anew} {
				clear(l[:cap(l)])
			}
			if !slices.Equal(room, wasRoom) || !slices.Equal(kept, wasKept) {
				t.Fatalf("%v was %v, %v was %v", room, wasRoom, kept, wasKept)
			}
			if third := ask(n, now); !reflect.DeepEqual(first, was) || !reflect.DeepEqual(third, was) {
				t.Errorf("%v was %v, and then is %v", first, was, third)
			}
			clear(room)
			if !reflect.DeepEqual(first, was) {
				t.Errorf("an answer changes with the list: %v was %v", first, was)
			}
			copy(room, wasRoom)
		}
	}
}
