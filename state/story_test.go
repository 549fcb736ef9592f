package state_test

import (
	"slices"
	"testing"

	"yardarm/api"
	"yardarm/state"
)

// shelf: a pool of the book: who has the address at which place, till when, and what is kept back.
type shelf struct {
	prefix api.Prefix
	kept   [16]bool
	who    [16]string
	till   [16]int
}

func (s *shelf) size() uint64 {
	if s.prefix.Addr.V6 {
		return 1 << (128 - s.prefix.Bits)
	}
	return 1 << (32 - s.prefix.Bits)
}

func (s *shelf) at(n int) api.Addr {
	a := s.prefix.Addr
	a.Lo += uint64(n)
	return a
}

// place of an address; false, if it is none of the pool.
func (s *shelf) place(a api.Addr) (int, bool) {
	p := s.prefix.Addr
	if a.V6 != p.V6 || a.Hi != p.Hi || a.Lo < p.Lo || a.Lo-p.Lo >= s.size() {
		return 0, false
	}
	return int(a.Lo - p.Lo), true
}

// book: what is granted, told by places alone, and so by nothing that the program does ops with.
type book struct {
	shelves []*shelf
	now     int
}

func (b *book) state() api.State {
	s := api.State{Now: b.now}
	for _, h := range b.shelves {
		p := api.Pool{Prefix: h.prefix}
		for i, kept := range h.kept {
			if kept {
				p.Kept = append(p.Kept, h.at(i))
			}
			if h.who[i] != "" {
				s.Leases = append(s.Leases, held(h.at(i), h.who[i], h.till[i]))
			}
		}
		s.Pools = append(s.Pools, p)
	}
	return s
}

// of: the shelf and the place of someone; nil, if there is none.
func (b *book) of(who string) (*shelf, int) {
	for _, h := range b.shelves {
		if i := slices.Index(h.who[:], who); i >= 0 {
			return h, i
		}
	}
	return nil, 0
}

func (b *book) do(o api.Op) (api.Addr, api.Errno) {
	switch o.Kind {
	case api.OpPool:
		return nowhere, b.pool(o.Prefix)
	case api.OpKeep:
		return nowhere, b.keep(o.Addr)
	case api.OpGrant:
		return b.grant(o)
	case api.OpFree:
		h, i := b.of(o.Who)
		if h == nil {
			return nowhere, api.ErrNone
		}
		h.who[i] = ""
		return h.at(i), api.OK
	}
	if o.N < b.now {
		return nowhere, api.ErrState
	}
	b.now = o.N
	for _, h := range b.shelves {
		for i := range h.who {
			if h.till[i] < b.now {
				h.who[i] = ""
			}
		}
	}
	return nowhere, api.OK
}

func (b *book) pool(p api.Prefix) api.Errno {
	one := &shelf{prefix: p}
	for i := range int(one.size()) {
		for _, h := range b.shelves {
			if _, ok := h.place(one.at(i)); ok {
				return api.ErrTwice
			}
		}
	}
	if len(b.shelves) == 3 {
		return api.ErrMany
	}
	b.shelves = append(b.shelves, one)
	slices.SortFunc(b.shelves, func(g, h *shelf) int {
		x, y := g.prefix.Addr, h.prefix.Addr
		if y.V6 && !x.V6 || x.V6 == y.V6 && (x.Hi < y.Hi || x.Hi == y.Hi && x.Lo < y.Lo) {
			return -1
		}
		return 1
	})
	return api.OK
}

func (b *book) keep(a api.Addr) api.Errno {
	for _, h := range b.shelves {
		i, ok := h.place(a)
		if !ok {
			continue
		}
		many := 0
		for _, kept := range h.kept {
			if kept {
				many++
			}
		}
		if h.kept[i] {
			return api.ErrTwice
		}
		if many == 6 {
			return api.ErrMany
		}
		h.kept[i] = true
		return api.OK
	}
	return api.ErrNone
}

func (b *book) grant(o api.Op) (api.Addr, api.Errno) {
	if o.Of >= len(b.shelves) {
		return nowhere, api.ErrNone
	}
	h := b.shelves[o.Of]
	has, i := b.of(o.Who)
	if has != nil && has != h {
		return nowhere, api.ErrTwice
	}
	if has == nil {
		for i = 0; i < int(h.size()) && (h.kept[i] || h.who[i] != ""); {
			i++
		}
		if i == int(h.size()) {
			return nowhere, api.ErrFull
		}
		if len(b.state().Leases) == 20 {
			return nowhere, api.ErrMany
		}
	}
	h.who[i], h.till[i] = o.Who, b.now+o.N
	return h.at(i), api.OK
}

// anOp of a small world, so that ops are in each other's way.
func anOp(d *draw, now int) api.Op {
	a := []api.Addr{four(0), four(16), sixteen(7, 0)}[d.below(3)]
	wide := d.below(5)
	off := uint64(d.below(16))
	who := string([]byte{byte('a' + d.below(30)%26), byte('0' + d.below(2))})
	switch k := d.below(20); {
	case k == 0:
		bits := 32
		if a.V6 {
			bits = 128
		}
		a.Lo += off >> wide << wide
		return addPool(a, bits-wide)
	case k == 1:
		a.Lo += off
		return keep(a)
	case k < 4:
		return free(who)
	case k < 6:
		return tick(max(0, now+d.below(4)-1))
	}
	return grant(who, d.below(3), 1+d.below(60))
}

// G3, G4: long stories: what is done is what the book says, and what is left is right; so no address is leased twice, nobody has two, and what is kept back is not granted anew.
func TestStories(t *testing.T) {
	var d draw
	met := map[api.Errno]int{}
	for range 300 {
		var b book
		var s api.State
		for range 150 {
			o := anOp(&d, b.now)
			a, why := b.do(o)
			met[why]++
			if why != api.OK {
				doFails(t, s, o, why)
				continue
			}
			doIs(t, s, o, b.state(), a)
			granted(t, s, o, a)
			s = b.state()
		}
		if t.Failed() {
			return
		}
	}
	for _, e := range []api.Errno{api.OK, api.ErrMany, api.ErrState, api.ErrNone, api.ErrTwice, api.ErrFull} {
		if met[e] < 20 {
			t.Errorf("stories have %d ops with %d: too few to tell", met[e], e)
		}
	}
}

// granted: an address that is new to who gets it is not leased, and not kept back.
func granted(t *testing.T, s api.State, o api.Op, a api.Addr) {
	t.Helper()
	if o.Kind != api.OpGrant || slices.ContainsFunc(s.Leases, func(l api.Lease) bool { return l.Who == o.Who }) {
		return
	}
	if slices.ContainsFunc(s.Leases, func(l api.Lease) bool { return l.Addr == a }) || slices.Contains(s.Pools[o.Of].Kept, a) {
		t.Errorf("%v in %v: %v", o, s, a)
	}
}

// G4: what an op leaves is a state that the next one may be done in: by the program's own answers alone.
func TestOnAndOn(t *testing.T) {
	var d draw = 5
	for range 100 {
		var s api.State
		for range 100 {
			x, _, e := state.Do(s, anOp(&d, s.Now))
			checkIs(t, x, api.OK)
			if e == api.OK {
				s = x
			}
		}
	}
}
