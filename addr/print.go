package addr

import (
	"strconv"
	"strings"

	"yardarm/api"
)

// groupCount is how many groups of two bytes an address of sixteen has.
const groupCount = 8

// shortestRow is how many groups `::` stands for at least when an address is printed.
const shortestRow = 2

func printFour(a api.Addr) string {
	var words []string
	for shift := 24; shift >= 0; shift -= 8 {
		words = append(words, strconv.FormatUint(a.Lo>>shift&0xff, 10))
	}
	return strings.Join(words, ".")
}

func printSixteen(a api.Addr) string {
	l := split(a)
	from, to := longestRow(l)
	if to-from < shortestRow {
		return printGroups(l)
	}
	return printGroups(l[:from]) + "::" + printGroups(l[to:])
}

func printGroups(l []uint64) string {
	var words []string
	for _, g := range l {
		words = append(words, strconv.FormatUint(g, 16))
	}
	return strings.Join(words, ":")
}

// split an address of sixteen bytes into its groups, the greatest one first.
func split(a api.Addr) []uint64 {
	var l []uint64
	for _, half := range []uint64{a.Hi, a.Lo} {
		for shift := 48; shift >= 0; shift -= 16 {
			l = append(l, half>>shift&0xffff)
		}
	}
	return l
}

// longestRow of groups that are 0: its first place, and the one behind it. Only a longer row takes over, so that of several as long ones the first one stays.
func longestRow(l []uint64) (int, int) {
	from, to, start := 0, 0, 0
	for i, g := range l {
		if g != 0 {
			start = i + 1
		} else if i+1-start > to-from {
			from, to = start, i+1
		}
	}
	return from, to
}
