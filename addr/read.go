package addr

import (
	"slices"
	"strconv"
	"strings"

	"yardarm/api"
	"yardarm/number"
)

// longest text that is an address: what is longer is given up unread, so that it costs nothing.
const longest = len("ffff:ffff:ffff:ffff:ffff:ffff:255.255.255.255")

// noAddress is what a reader panics with. It is a type of its own, so that nothing else is taken for a wrong text.
type noAddress struct{ why api.Errno }

func giveUp() { panic(noAddress{api.ErrForm}) }

// read a text; whichever reader below gives up, it is here that its panic ends.
func read(s string) (a api.Addr, e api.Errno) {
	defer func() {
		if no, ok := recover().(noAddress); ok {
			a, e = api.Addr{}, no.why
		}
	}()
	if len(s) > longest {
		giveUp()
	}
	if strings.Contains(s, ":") {
		return readSixteen(s), api.OK
	}
	return api.Addr{Lo: readFour(s)}, api.OK
}

func readFour(s string) uint64 {
	words := strings.Split(s, ".")
	if len(words) != 4 {
		giveUp()
	}
	var all uint64
	for _, w := range words {
		n, ok := number.Read(w, 3)
		if !ok || n > 255 {
			giveUp()
		}
		all = all<<8 | uint64(n)
	}
	return all
}

func readSixteen(s string) api.Addr {
	front, back, gap := strings.Cut(s, "::")
	if !gap {
		return join(readGroups(s, true))
	}
	// The last two groups of all never stand ahead of `::`, so four bytes may not end there.
	ahead, behind := readGroups(front, false), readGroups(back, true)
	missing := groupCount - len(ahead) - len(behind)
	if missing < 1 {
		giveUp()
	}
	return join(slices.Concat(ahead, make([]uint64, missing), behind))
}

// readGroups of a text, the last two of them by four bytes, if that may be; an empty text, which only `::` leaves, has none.
func readGroups(s string, bytesMayEnd bool) []uint64 {
	if s == "" {
		return nil
	}
	words := strings.Split(s, ":")
	end := len(words) - 1
	var l []uint64
	for _, w := range words[:end] {
		l = append(l, readGroup(w))
	}
	if bytesMayEnd && strings.Contains(words[end], ".") {
		n := readFour(words[end])
		return append(l, n>>16, n&0xffff)
	}
	return append(l, readGroup(words[end]))
}

func readGroup(s string) uint64 {
	n, err := strconv.ParseUint(s, 16, 16)
	if err != nil || len(s) > 4 {
		giveUp()
	}
	return n
}

// join groups, the greatest one first, to an address of sixteen bytes.
func join(l []uint64) api.Addr {
	if len(l) != groupCount {
		giveUp()
	}
	a := api.Addr{V6: true}
	for i := range groupCount / 2 {
		a.Hi = a.Hi<<16 | l[i]
		a.Lo = a.Lo<<16 | l[i+groupCount/2]
	}
	return a
}
