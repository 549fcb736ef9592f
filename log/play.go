package log

import (
	"yardarm/api"
	"yardarm/state"
)

// player is who plays a log: the state behind the ops so far, and what each of them told.
type player struct {
	api.State
	told []api.Addr
}

// play an op. One that has an error changes nothing, but it is told of too, as an address that is none: what is told stands at the place of its entry.
func (p *player) play(o api.Op) {
	s, a, e := state.Do(p.State, o)
	if e == api.OK {
		p.Pools, p.Leases, p.Now = s.Pools, s.Leases, s.Now
	}
	p.told = append(p.told, a)
}
