package prefix

import (
	"strings"

	"yardarm/addr"
	"yardarm/api"
	"yardarm/number"
)

// mostDigits that Bits may have in a text.
const mostDigits = 4

// noPrefix is what a reader panics with. It is a type of its own, so that nothing else is taken for a wrong text.
type noPrefix struct{ why api.Errno }

// read a text; whatever it gives up for, it is here that the panic ends.
func read(s string) (p api.Prefix, e api.Errno) {
	defer func() {
		if no, ok := recover().(noPrefix); ok {
			p, e = api.Prefix{}, no.why
		}
	}()
	p = readForm(s)
	if why := Check(p); why != api.OK {
		panic(noPrefix{why})
	}
	return p, api.OK
}

func readForm(s string) api.Prefix {
	front, back, slash := strings.Cut(s, "/")
	a, e := addr.Parse(front)
	bits, ok := number.Read(back, mostDigits)
	if !slash || e != api.OK || !ok {
		panic(noPrefix{api.ErrForm})
	}
	return api.Prefix{Addr: a, Bits: bits}
}
