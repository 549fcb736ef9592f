package text_test

import (
	"math"
	"strings"
	"testing"

	"yardarm/api"
	"yardarm/state"
	"yardarm/text"
)

func four(lo uint64) api.Addr { return api.Addr{Lo: lo} }

func sixteen(hi, lo uint64) api.Addr { return api.Addr{V6: true, Hi: hi, Lo: lo} }

func pool(a api.Addr, bits int) api.Op {
	return api.Op{Kind: api.OpPool, Prefix: api.Prefix{Addr: a, Bits: bits}}
}

func keep(a api.Addr) api.Op { return api.Op{Kind: api.OpKeep, Addr: a} }

func grant(who string, of, n int) api.Op {
	return api.Op{Kind: api.OpGrant, Who: who, Of: of, N: n}
}

func free(who string) api.Op { return api.Op{Kind: api.OpFree, Who: who} }

func tick(n int) api.Op { return api.Op{Kind: api.OpTick, N: n} }

// texts of ops, to the ends of what may be.
var texts = map[string]api.Op{
	"pool 0.0.0.8/30":          pool(four(8), 30),
	"pool 10.0.0.0/28":         pool(four(10<<24), 28),
	"pool 0.0.0.0/32":          pool(four(0), 32),
	"pool 255.255.255.240/28":  pool(four(math.MaxUint32-15), 28),
	"pool ::/124":              pool(sixteen(0, 0), 124),
	"pool 2001:db8::/127":      pool(sixteen(0x20010db800000000, 0), 127),
	"pool 0:1::abc:0:0:d0/126": pool(sixteen(0x0000000100000000, 0x0abc0000000000d0), 126),
	"pool ffff:ffff:ffff:ffff:ffff:ffff:ffff:ffff/128": pool(sixteen(math.MaxUint64, math.MaxUint64), 128),
	"keep 1.2.3.4":         keep(four(0x01020304)),
	"keep 0.0.0.0":         keep(four(0)),
	"keep 255.255.255.255": keep(four(math.MaxUint32)),
	"keep ::":              keep(sixteen(0, 0)),
	"keep ::1":             keep(sixteen(0, 1)),
	"keep ::ffff:102:304":  keep(sixteen(0, 0xffff01020304)),
	"grant a 0 1":          grant("a", 0, 1),
	"grant abcdefgh 2 500": grant("abcdefgh", 2, 500),
	"grant 0 1 10":         grant("0", 1, 10),
	"grant grant 0 99":     grant("grant", 0, 99),
	"grant 007 2 499":      grant("007", 2, 499),
	"free a":               free("a"),
	"free free":            free("free"),
	"free 00000000":        free("00000000"),
	"tick 0":               tick(0),
	"tick 7":               tick(7),
	"tick 10":              tick(10),
	"tick 9999":            tick(9999),
}

func printIs(t *testing.T, o api.Op, want string, why api.Errno) {
	t.Helper()
	if s, e := text.Print(o); s != want || e != why {
		t.Errorf("Print of %v: %q %d, and must be %q %d", o, s, e, want, why)
	}
}

func parseIs(t *testing.T, s string, want api.Op, why api.Errno) {
	t.Helper()
	if o, e := text.Parse(s); o != want || e != why {
		t.Errorf("Parse of %.80q: %v %d, and must be %v %d", s, o, e, want, why)
	}
}

// H1, H2: what is printed, and that it is parsed as it was.
func TestTexts(t *testing.T) {
	for s, o := range texts {
		printIs(t, o, s, api.OK)
		parseIs(t, s, o, api.OK)
	}
}

// H1, P1: an op that is wrong has no text, and its error is that of Form.
func TestPrintWrong(t *testing.T) {
	for want, l := range map[api.Errno][]api.Op{
		api.ErrKind:  {{}, {Kind: -1}, {Kind: 6}, {Kind: math.MinInt}, {Kind: math.MaxInt}, {Kind: 6, Who: "a", N: 5}},
		api.ErrForm:  {{Kind: api.OpTick, N: 9, Who: "a"}, {Kind: api.OpFree, Who: "a", Of: 1}, {Kind: api.OpKeep, Who: "a"}, {Kind: api.OpGrant, Who: "a", N: 5, Addr: four(1)}, {Kind: api.OpPool, Addr: four(1)}, grant("", 0, 5), grant("A", 0, 5), grant("a b", 0, 5), free(""), free("abcdefghi"), free("a\n")},
		api.ErrRange: {grant("a", 3, 5), grant("a", -1, 5), grant("a", 0, 0), grant("a", 0, 501), tick(-1), tick(10000), keep(api.Addr{Hi: 1}), keep(four(1 << 32)), pool(four(0), 33), pool(four(0), -1)},
		api.ErrState: {pool(four(9), 30), pool(sixteen(0, 1), 127)},
		api.ErrMany:  {pool(four(0), 27), pool(four(0), 0), pool(sixteen(0, 0), 123)},
	} {
		for _, o := range l {
			printIs(t, o, "", want)
			if e := state.Form(o); e != want {
				t.Errorf("Form of %v: %d, and must be %d", o, e, want)
			}
		}
	}
}

// H1, P1: texts that no op has: the error is ErrForm, whatever it is that is wrong, and there is nothing beside it.
func TestParseWrong(t *testing.T) {
	for _, s := range []string{
		"", " ", "\n", "  ", "what", "what 1", "0 1", "1 10.0.0.8/30", "\x00", "\xff", "é",
		"pool", "pool ", "pool  ", "pool 0.0.0.8", "pool 0.0.0.8/", "pool 0.0.0.8/030", "pool 0.0.0.08/30", "pool 0.0.0.9/30", "pool 0.0.0.0/27", "pool 0.0.0.0/0", "pool ::/0", "pool ::/123", "pool 0.0.0.8/33", "pool 0.0.0.8/-1", "pool 0.0.0.8/+30",
		"pool 2001:DB8::/127", "pool 2001:db8:0::/127", "pool 2001:0db8::/127", "pool 2001:db8:0:0:0:0:0:0/127", "pool ::0.0.0.0/127", "pool 0.0.0.8/30 ", " pool 0.0.0.8/30", "pool  0.0.0.8/30", "pool 0.0.0.8/30 0.0.0.8/30", "pool 0.0.0.8 /30", "pool 0.0.0.8/30\n", "Pool 0.0.0.8/30", "pool\t0.0.0.8/30", "pool0.0.0.8/30", "pool a",
		"keep", "keep ", "keep 1.2.3", "keep 1.2.3.04", "keep 1.2.3.256", "keep 1.2.3.4.5", "keep 1.2.3.4/32", "keep 0::1", "keep ::0001", "keep ::A", "keep 0:0:0:0:0:0:0:1", "keep ::ffff:1.2.3.4", "keep ::1::", "keep 1.2.3.4 ", "keep  1.2.3.4", "keep x", "keep 0", "KEEP ::1", "keep ::1 ::1",
		"grant", "grant ", "grant a", "grant a ", "grant a 0", "grant a 0 ", "grant a  5", "grant  0 5", "grant a 0 0", "grant a 3 5", "grant a 0 501", "grant a 0 1000", "grant a 00 5", "grant a 0 05", "grant a -1 5", "grant a +1 5", "grant a 0 -5", "grant a 0 +5", "grant A 0 5", "grant abcdefghi 0 5", "grant a 0 5 ", "grant a 0 5 6", " grant a 0 5", "grant a  0 5", "grant a 0  5", "grant a b 5", "grant a 0 b", "grant 0 5", "grant a 0x0 5", "grant a 0 5\n", "grant a 0 4294967297", "grant a 4294967296 5", "grant a 0 18446744073709551617", "grant a\x000 5", "grant é 0 5",
		"free", "free ", "free a b", "free a ", " free a", "free  a", "free A", "free abcdefghi", "free -", "FREE a", "freea", "free a\n", "free a 0 5", "fre a", "frees a",
		"tick", "tick ", "tick -1", "tick +1", "tick 05", "tick 00", "tick 10000", "tick 99999", "tick 1 ", " tick 1", "tick  1", "tick 1 1", "tick 1.0", "tick 1e1", "tick 0x1", "tick 1_0", "tick a", "TICK 1", "tick 1\n", "tick 4294967296", "tick 18446744073709551616", "tick \u0661", "tick １",
		strings.Repeat(" ", 1<<20), strings.Repeat("a", 1<<20), "tick " + strings.Repeat("0", 1<<20), "free " + strings.Repeat("a", 1<<20), "keep " + strings.Repeat(":", 1<<20), "grant a 0 5" + strings.Repeat(" 5", 1<<20), "pool " + strings.Repeat("0.", 1<<20),
	} {
		parseIs(t, s, api.Op{}, api.ErrForm)
	}
}
