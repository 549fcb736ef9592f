package prefix_test

import (
	"math"
	"math/rand/v2"
	"strings"
	"testing"

	"yardarm/api"
	"yardarm/prefix"
)

// B1: texts of prefixes, and those that Print tells them by.
func TestParseAndPrint(t *testing.T) {
	for _, c := range []struct {
		text, printed string
		p             api.Prefix
	}{
		{"0.0.0.0/0", "0.0.0.0/0", four(0, 0)},
		{"10.0.0.8/30", "10.0.0.8/30", four(0x0a000008, 30)},
		{"1.2.3.4/32", "1.2.3.4/32", four(0x01020304, 32)},
		{"255.255.255.254/31", "255.255.255.254/31", four(math.MaxUint32-1, 31)},
		{"::/0", "::/0", sixteen(0, 0, 0)},
		{"::/128", "::/128", sixteen(0, 0, 128)},
		{"8000::/1", "8000::/1", sixteen(1<<63, 0, 1)},
		{"2001:DB8:0::/48", "2001:db8::/48", sixteen(0x20010db800000000, 0, 48)},
		{"::1:0:0:0:0/64", "0:0:0:1::/64", sixteen(1, 0, 64)},
		{"::1.2.3.4/126", "::102:304/126", sixteen(0, 0x01020304, 126)},
		{"ffff:ffff:ffff:ffff:ffff:ffff:255.255.255.255/128", "ffff:ffff:ffff:ffff:ffff:ffff:ffff:ffff/128", sixteen(math.MaxUint64, math.MaxUint64, 128)},
	} {
		if p, e := prefix.Parse(c.text); p != c.p || e != api.OK {
			t.Errorf("%q is parsed as %v %d", c.text, p, e)
		}
		if s, e := prefix.Print(c.p); s != c.printed || e != api.OK {
			t.Errorf("%v is printed as %q %d", c.p, s, e)
		}
	}
}

// B1: what is no prefix: its form first, then what Check says.
func TestParseWrong(t *testing.T) {
	for why, texts := range map[api.Errno][]string{
		api.ErrForm: {
			"", "/", "//", "8", "/8", "x/8", "1.2.3.4", "1.2.3.4/", "::", "::/", "1.2.3/8", "256.0.0.0/8", "1::2::3/8",
			"10.0.0.0/08", "10.0.0.0/00", "10.0.0.0/+8", "10.0.0.0/-1", "10.0.0.0/8/", "10.0.0.0/8/8", "10.0.0.0//8", "10.0.0.0/ 8", "10.0.0.0/8 ", " 10.0.0.0/8", "10.0.0.0 /8",
			"10.0.0.0/0x8", "10.0.0.0/8.0", "10.0.0.0/a", "10.0.0.0/1_0", "10.0.0.0/10000", "10.0.0.0/00008", "10.0.0.0/18446744073709551624", "10.0.0.0\\8",
			"x/9999", "1.2.3.4.5/9999", "::g/129", "10.0.0.1/08", "10.0.0.0/\u0668", "\xff/8",
		},
		api.ErrRange: {"1.2.3.4/33", "1.2.3.4/128", "0.0.0.0/33", "10.0.0.0/1000", "10.0.0.0/9999", "::/129", "::1/129", "::/9999"},
		api.ErrState: {"1.2.3.5/31", "0.0.0.1/0", "128.0.0.0/0", "10.0.0.0/6", "::1/127", "::1/0", "8000::/0", "0:0:0:1::/63", "::8000:0:0:0/64"},
	} {
		for _, s := range texts {
			if p, e := prefix.Parse(s); p != nothing || e != why {
				t.Errorf("%q is parsed as %v %d, and must be %d", s, p, e, why)
			}
		}
	}
}

// B1: what is printed is parsed as it was.
func TestPrintedIsParsed(t *testing.T) {
	for _, p := range some() {
		s, e := prefix.Print(p)
		if q, f := prefix.Parse(s); e != api.OK || q != p || f != api.OK {
			t.Errorf("%v is printed as %q %d, and that parsed as %v %d", p, s, e, q, f)
		}
	}
}

// P1: whatever the text, there is an answer, with nothing beside an error.
func TestParseWhatever(t *testing.T) {
	r := rand.New(rand.NewPCG(5, 6))
	fronts := []string{"10.0.0.0", "::", "1::", "255.255.255.255", "x", "", "::1.2.3.4"}
	const signs = "0123456789/:. -+a\x00\xff"
	for range 100000 {
		b := []byte(fronts[r.IntN(len(fronts))] + "/")
		for range r.IntN(6) {
			b = append(b, signs[r.IntN(len(signs))])
		}
		p, e := prefix.Parse(string(b))
		switch e {
		case api.OK:
			if f := prefix.Check(p); f != api.OK {
				t.Fatalf("%q is parsed as %v: %d", b, p, f)
			}
		case api.ErrForm, api.ErrRange, api.ErrState:
			if p != nothing {
				t.Fatalf("%q: %d, and %v beside it", b, e, p)
			}
		default:
			t.Fatalf("%q: %d", b, e)
		}
	}
}

// P1, P4: a text that is long costs no more than its length.
func TestParseLongTexts(t *testing.T) {
	for _, part := range []string{"/", ":", ".", "1", "0", "1/", "\x00"} {
		long := strings.Repeat(part, 1<<24/len(part))
		for _, s := range []string{long, "::/" + long, long + "/8"} {
			if p, e := prefix.Parse(s); p != nothing || e != api.ErrForm {
				t.Errorf("%.20q and so on: %v %d", s, p, e)
			}
		}
	}
}

// P2, P3: answers are the caller's, and the same whatever was asked between.
func TestAnswersStay(t *testing.T) {
	type answer struct {
		text           string
		p, x, y, w     api.Prefix
		a, b           api.Addr
		has            bool
		e1, e2, e3, e4 api.Errno
		e5, e6         api.Errno
	}
	ask := func(p api.Prefix) (z answer) {
		z.text, z.e1 = prefix.Print(p)
		z.p, z.e2 = prefix.Parse(z.text)
		z.a, z.b, z.e3 = prefix.Ends(p)
		z.x, z.y, z.e4 = prefix.Halves(p)
		z.w, z.e5 = prefix.Whole(z.x, z.y)
		z.has, z.e6 = prefix.Has(p, z.x)
		return z
	}
	l := some()
	for p := range faults() {
		l = append(l, p)
	}
	var first []answer
	for _, p := range l {
		first = append(first, ask(p))
	}
	for i := len(l) - 1; i >= 0; i-- {
		if again := ask(l[i]); again != first[i] {
			t.Errorf("%v: %v, and then %v", l[i], first[i], again)
		}
	}
}
