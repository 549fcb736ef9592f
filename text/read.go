package text

import (
	"strings"

	"yardarm/addr"
	"yardarm/api"
	"yardarm/number"
	"yardarm/prefix"
)

// mostWords that a print has, and mostDigits of a number there.
const (
	mostWords  = 4
	mostDigits = 4
)

// read a text: if it is the print of an op, that one; whatever else it is, some op, or none.
func read(s string) api.Op {
	words := strings.SplitN(s, " ", mostWords)
	o := api.Op{Kind: kind(words[0])}
	switch one := word(words, 1); o.Kind {
	case api.OpPool:
		o.Prefix, _ = prefix.Parse(one)
	case api.OpKeep:
		o.Addr, _ = addr.Parse(one)
	case api.OpGrant:
		o.Who, o.Of, o.N = one, numeral(word(words, 2)), numeral(word(words, 3))
	case api.OpFree:
		o.Who = one
	case api.OpTick:
		o.N = numeral(one)
	}
	return o
}

// kind that a word tells; 0, if it tells none.
func kind(word string) int {
	for k, w := range kinds {
		if w == word {
			return k
		}
	}
	return 0
}

// word at a place; an empty one, if there is none.
func word(words []string, n int) string {
	if n < len(words) {
		return words[n]
	}
	return ""
}

// numeral: the number that a word tells; 0, if it tells none.
func numeral(word string) int {
	n, _ := number.Read(word, mostDigits)
	return n
}
