package prefix

import "yardarm/api"

// width is how many bits an address of its kind has.
func width(a api.Addr) int {
	if a.V6 {
		return 128
	}
	return 32
}

// rest: the bits of an address behind the first ones, all set, as its two halves. A shift by 64 leaves 0, and one less than that is all of them.
func rest(a api.Addr, bits int) (uint64, uint64) {
	n := width(a) - bits
	return uint64(1)<<max(n-64, 0) - 1, uint64(1)<<n - 1
}

// first bits of an address, all others 0.
func first(a api.Addr, bits int) api.Addr {
	hi, lo := rest(a, bits)
	return api.Addr{V6: a.V6, Hi: a.Hi &^ hi, Lo: a.Lo &^ lo}
}

// last address of a prefix.
func last(p api.Prefix) api.Addr {
	hi, lo := rest(p.Addr, p.Bits)
	return api.Addr{V6: p.Addr.V6, Hi: p.Addr.Hi | hi, Lo: p.Addr.Lo | lo}
}

// halves of a prefix of more than one address. The last address lies in the greater one, and so tells its bits.
func halves(p api.Prefix) (api.Prefix, api.Prefix) {
	bits := p.Bits + 1
	return api.Prefix{Addr: p.Addr, Bits: bits}, api.Prefix{Addr: first(last(p), bits), Bits: bits}
}
