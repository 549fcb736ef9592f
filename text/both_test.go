package text_test

import (
	"regexp"
	"slices"
	"testing"

	"yardarm/addr"
	"yardarm/api"
	"yardarm/prefix"
	"yardarm/text"
)

// formOf texts whose numbers and names tell all by themselves.
var formOf = regexp.MustCompile(`^(grant [a-z0-9]{1,8} [012] ([1-9][0-9]?|[1-4][0-9][0-9]|500)|free [a-z0-9]{1,8}|tick (0|[1-9][0-9]{0,3}))$`)

// isText: is it the print of an op? This is told by the form of the text, and by the prints of the chapters ahead.
func isText(s string) bool {
	if len(s) > 5 && s[:5] == "keep " {
		a, _ := addr.Parse(s[5:])
		p, e := addr.Print(a)
		return e == api.OK && p == s[5:]
	}
	if len(s) > 5 && s[:5] == "pool " {
		p, e := prefix.Parse(s[5:])
		t, _ := prefix.Print(p)
		least := 28
		if p.Addr.V6 {
			least = 124
		}
		return e == api.OK && t == s[5:] && p.Bits >= least
	}
	return formOf.MatchString(s)
}

// H1, H2: texts that are one byte off: one more, one less, another one, or two changed about. Each is parsed just if it is a print, and then it is printed as it was.
func TestOneOff(t *testing.T) {
	bytes := []byte(" \n\x00.:/-+0123456789abcdfgiloprtuvzAF_")
	met := map[bool]int{}
	for s := range texts {
		for i := range len(s) + 1 {
			for _, b := range bytes {
				oneOff(t, met, string(slices.Insert([]byte(s), i, b)))
				if i < len(s) {
					oneOff(t, met, s[:i]+string(b)+s[i+1:])
				}
			}
			if i < len(s) {
				oneOff(t, met, s[:i]+s[i+1:])
				oneOff(t, met, s[:i])
			}
			if i+1 < len(s) {
				oneOff(t, met, s[:i]+s[i+1:i+2]+s[i:i+1]+s[i+2:])
			}
		}
	}
	if met[true] < 100 || met[false] < 100 {
		t.Errorf("%v texts: too few to tell", met)
	}
}

func oneOff(t *testing.T, met map[bool]int, s string) {
	t.Helper()
	met[isText(s)]++
	if !isText(s) {
		parseIs(t, s, api.Op{}, api.ErrForm)
		return
	}
	o, e := text.Parse(s)
	if e != api.OK {
		t.Errorf("Parse of %q: %d, and must be %d", s, e, api.OK)
	}
	printIs(t, o, s, api.OK)
}

// H1, H2: all numbers that may be there, and those beside them.
func TestNumbers(t *testing.T) {
	for n := -20; n <= 10020; n++ {
		both(t, tick(n), n >= 0 && n <= 9999)
		both(t, grant("ann", n%4, n), n%4 >= 0 && n%4 <= 2 && n >= 1 && n <= 500)
	}
	for bits := -1; bits <= 33; bits++ {
		both(t, pool(four(0), bits), bits >= 28 && bits <= 32)
	}
	for bits := -1; bits <= 129; bits++ {
		both(t, pool(sixteen(1<<32, 0), bits), bits >= 124 && bits <= 128)
	}
	for n := range uint(64) {
		both(t, keep(four(1<<n)), n < 32)
		both(t, keep(sixteen(1<<n, 0)), true)
		both(t, keep(sixteen(0, 1<<n)), true)
		both(t, keep(sixteen(1<<n, 1<<(63-n))), true)
	}
}

// both: an op that is right is parsed as it was, one that is wrong has no text.
func both(t *testing.T, o api.Op, right bool) {
	t.Helper()
	s, e := text.Print(o)
	if !right {
		if s != "" || e == api.OK {
			t.Errorf("Print of %v: %q %d", o, s, e)
		}
		return
	}
	if e != api.OK || !isText(s) {
		t.Errorf("Print of %v: %q %d", o, s, e)
	}
	parseIs(t, s, o, api.OK)
}

// P3: the same each time, whatever was asked between.
func TestAgain(t *testing.T) {
	for range 3 {
		for s, o := range texts {
			parseIs(t, s+" ", api.Op{}, api.ErrForm)
			printIs(t, api.Op{Kind: 9}, "", api.ErrKind)
			parseIs(t, s, o, api.OK)
			printIs(t, o, s, api.OK)
		}
	}
}
