package addr_test

import (
	"math"
	"math/rand/v2"
	"runtime"
	"strings"
	"testing"

	"yardarm/addr"
	"yardarm/api"
)

func parses(t *testing.T, s string, want api.Addr) {
	t.Helper()
	if a, e := addr.Parse(s); a != want || e != api.OK {
		t.Errorf("%q is parsed as %v %d, and must be %v", s, a, e, want)
	}
}

func refuses(t *testing.T, s string) {
	t.Helper()
	if a, e := addr.Parse(s); a != (api.Addr{}) || e != api.ErrForm {
		t.Errorf("%.60q is parsed as %v %d, and is none", s, a, e)
	}
}

// A2: four bytes, each number at each place.
func TestParseFour(t *testing.T) {
	parses(t, "0.0.0.0", api.Addr{})
	parses(t, "1.2.3.4", api.Addr{Lo: 0x01020304})
	parses(t, "10.0.0.8", api.Addr{Lo: 0x0a000008})
	parses(t, "255.255.255.255", api.Addr{Lo: math.MaxUint32})
	for _, n := range []string{"256", "260", "300", "999", "1000", "00", "01", "001", "-1", "+1", "", " 1", "1 ", "a", "0x1", "1e1", "1_0", "\u0661"} {
		for place := range 4 {
			words := []string{"1", "2", "3", "4"}
			words[place] = n
			refuses(t, strings.Join(words, "."))
			refuses(t, "::"+strings.Join(words, "."))
		}
	}
	for _, s := range []string{"", ".", "...", "1", "1.2", "1.2.3", "1.2.3.4.5", ".1.2.3.4", "1.2.3.4.", "1..3.4", "1,2,3,4", "1.2.3.4/8", "1.2.3.4\n", "1.2.3.4\x00", "\xff"} {
		refuses(t, s)
	}
}

// A2: sixteen bytes: digits of groups, small or not, with noughts ahead or without.
func TestParseSixteen(t *testing.T) {
	parses(t, "1:2:3:4:5:6:7:8", of([8]uint64{1, 2, 3, 4, 5, 6, 7, 8}))
	parses(t, "0:0:0:0:0:0:0:0", of([8]uint64{}))
	parses(t, "0001:0020:0300:4000:0:00:000:0000", of([8]uint64{1, 0x20, 0x300, 0x4000}))
	parses(t, "abcd:ef01:ABCD:EF01:aBcD:Ef01:ffff:FFFF", of([8]uint64{0xabcd, 0xef01, 0xabcd, 0xef01, 0xabcd, 0xef01, 0xffff, 0xffff}))
	parses(t, "2001:DB8::A", of([8]uint64{0x2001, 0xdb8, 0, 0, 0, 0, 0, 0xa}))
	for _, g := range []string{"", "00000", "12345", "g", "0x1", "+1", "-1", "1_0", " 1", "1 ", "1.", "1.2.3.4", "%", "\u0661", "\xff"} {
		for place := range 7 {
			words := strings.Split("1:2:3:4:5:6:7:8", ":")
			words[place] = g
			if g != "" || place == 0 { // an empty one between two would be `::`
				refuses(t, strings.Join(words, ":"))
			}
		}
	}
	for _, s := range []string{":", ":1", "1:", "1:2", "1:2:3:4:5:6:7", "1:2:3:4:5:6:7:", ":1:2:3:4:5:6:7:8", "1:2:3:4:5:6:7:8:", "1:2:3:4:5:6:7:8:9", "::1%e", "[::1]", "::1 ", " ::1", "::1/64", "::1\n", "::g"} {
		refuses(t, s)
	}
}

// A2: `::` at every place, with every number of groups on either side: at least one is missing.
func TestParseGap(t *testing.T) {
	groups := func(from, n int) string {
		return strings.Join(strings.Split("1:2:3:4:5:6:7:8:9:a:b:c:d:e:f:10:11:12", ":")[from:from+n], ":")
	}
	for ahead := range 10 {
		for behind := range 9 {
			s := groups(0, ahead) + "::" + groups(ahead, behind)
			if ahead+behind > 7 {
				refuses(t, s)
				continue
			}
			var l [8]uint64
			for i := range ahead {
				l[i] = uint64(i) + 1
			}
			for i := range behind {
				l[8-behind+i] = uint64(ahead+i) + 1
			}
			parses(t, s, of(l))
		}
	}
	for _, s := range []string{":::", "::::", "1:::2", ":::1", "1:::", "::1::", "1::2::3", "::1:", ":1::", "::1:2::", "1::2:3::4:5:6:7:8"} {
		refuses(t, s)
	}
}

// A2: four bytes for the last two groups, and nowhere else.
func TestParseFourBytesAtTheEnd(t *testing.T) {
	parses(t, "::1.2.3.4", of([8]uint64{6: 0x102, 7: 0x304}))
	parses(t, "::ffff:10.0.0.1", of([8]uint64{5: 0xffff, 6: 0xa00, 7: 1}))
	parses(t, "1:2:3:4:5:6:1.2.3.4", of([8]uint64{1, 2, 3, 4, 5, 6, 0x102, 0x304}))
	parses(t, "1:2:3:4:5::1.2.3.4", of([8]uint64{1, 2, 3, 4, 5, 0, 0x102, 0x304}))
	parses(t, "::2:3:4:5:6:1.2.3.4", of([8]uint64{0, 2, 3, 4, 5, 6, 0x102, 0x304}))
	parses(t, "ffff:ffff:ffff:ffff:ffff:ffff:255.255.255.255", api.Addr{V6: true, Hi: math.MaxUint64, Lo: math.MaxUint64})
	for _, s := range []string{
		"1:2:3:4:5:1.2.3.4", "1:2:3:4:5:6:7:1.2.3.4", "1:2:3:4:5:6::1.2.3.4", "::1:2:3:4:5:6:1.2.3.4",
		"1.2.3.4::", "1.2.3.4::1", "::1.2.3.4:1", "1.2.3.4:1:2:3:4:5:6", "1:2:3:4:5:6.7.8.9", "::1.2.3.4:5.6.7.8", "1.2.3.4::1.2.3.4",
		"::1.2.3", "::1.2.3.4.5", "::1.2.3.256", "::01.2.3.4", "::1.2.3.4::", "::1.2.3.a", ":1.2.3.4", "1.2.3.4:",
	} {
		refuses(t, s)
	}
}

// P1: whatever the text, there is an answer; and what is an address is one that Check and Print take.
func TestParseWhatever(t *testing.T) {
	r := rand.New(rand.NewPCG(2, 3))
	const signs = "0123456789abcdefABCDEFg::::....% /\x00\xff"
	for range 200000 {
		b := make([]byte, r.IntN(20))
		for i := range b {
			b[i] = signs[r.IntN(len(signs))]
		}
		a, e := addr.Parse(string(b))
		switch e {
		case api.ErrForm:
			if a != (api.Addr{}) {
				t.Fatalf("%q is none, and %v beside it", b, a)
			}
		case api.OK:
			s, f := addr.Print(a)
			if c, g := addr.Parse(s); f != api.OK || c != a || g != api.OK {
				t.Fatalf("%q is parsed as %v, printed as %q %d, parsed as %v %d", b, a, s, f, c, g)
			}
		default:
			t.Fatalf("%q: %d", b, e)
		}
	}
}

// allocated bytes from the beginning on.
func allocated() uint64 {
	var m runtime.MemStats
	runtime.ReadMemStats(&m)
	return m.TotalAlloc
}

// P1, P4: a text that is long is refused, and not taken apart first.
func TestParseLongTexts(t *testing.T) {
	const length = 1 << 24
	for _, part := range []string{":", ".", "1", "0", "1:", "1.", "::", "1.2.3.4:", "\x00"} {
		for _, front := range []string{"", "::1"} {
			s := front + strings.Repeat(part, length/len(part))
			before := allocated()
			refuses(t, s)
			if took := allocated() - before; took > length {
				t.Errorf("%.20q and so on: %d bytes for it", s, took)
			}
		}
	}
}

// P2, P3: answers are the caller's, and the same whatever was asked between.
func TestAnswersStay(t *testing.T) {
	texts := []string{"1.2.3.4", "::", "1::2", "x", "1:2:3:4:5:6:7:8", "", "::1.2.3.256", "255.255.255.255"}
	type answer struct {
		a          api.Addr
		e, f, g, h api.Errno
		s          string
		next       api.Addr
		ok, less   bool
	}
	ask := func(text string) (x answer) {
		x.a, x.e = addr.Parse(text)
		x.s, x.f = addr.Print(x.a)
		x.next, x.ok, x.g = addr.Next(x.a)
		x.less, x.h = addr.Less(x.a, x.next)
		return x
	}
	var first []answer
	for _, s := range texts {
		first = append(first, ask(s))
	}
	for i := len(texts) - 1; i >= 0; i-- {
		if again := ask(texts[i]); again != first[i] {
			t.Errorf("%q: %v, and then %v", texts[i], first[i], again)
		}
	}
}
