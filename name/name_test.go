package name_test

import (
	"strings"
	"testing"

	"yardarm/name"
)

// F1: from one to eight bytes, small letters and digits alone.
func TestRight(t *testing.T) {
	for s, want := range map[string]bool{
		"a": true, "z": true, "0": true, "9": true, "abcdefgh": true, "00000000": true, "a0z9": true,
		"": false, "abcdefghi": false, "A": false, "aB": false, " ": false, "a ": false, " a": false, "a b": false, "é": false, "\u0661": false, "\xff": false, "a\x00": false,
		strings.Repeat("a", 1<<20): false,
	} {
		if name.Right(s) != want {
			t.Errorf("%.20q: %v", s, !want)
		}
	}
}

// F1: byte by byte, wherever in a name it stands.
func TestBytes(t *testing.T) {
	for b := range 256 {
		want := strings.IndexByte("abcdefghijklmnopqrstuvwxyz0123456789", byte(b)) >= 0
		for _, s := range []string{string([]byte{byte(b)}), string([]byte{'a', byte(b)}), string([]byte{byte(b), '7'})} {
			if name.Right(s) != want {
				t.Errorf("%q: %v", s, !want)
			}
		}
	}
}
