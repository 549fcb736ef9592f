package number_test

import (
	"math"
	"strconv"
	"strings"
	"testing"

	"yardarm/number"
)

func TestReadsWhatIsPrinted(t *testing.T) {
	for n := range 10000 {
		if got, ok := number.Read(strconv.Itoa(n), 4); got != n || !ok {
			t.Fatalf("%d is read as %d, %v", n, got, ok)
		}
	}
	if got, ok := number.Read("2147483647", 10); got != math.MaxInt32 || !ok {
		t.Errorf("the greatest one is read as %d, %v", got, ok)
	}
}

func TestRefusesWhatIsNoNumber(t *testing.T) {
	wrong := []string{"", " ", "00", "01", "+1", "-1", "-0", "1 ", " 1", "1_0", "0x1", "1a", "a", "1.", "1\x00", "\u0661", "\xff", "12345", "2147483648", strings.Repeat("9", 1<<16)}
	for _, s := range wrong {
		for _, most := range []int{-1, 0, 4} {
			if got, ok := number.Read(s, most); got != 0 || ok {
				t.Errorf("%.20q of at most %d digits is read as %d, %v", s, most, got, ok)
			}
		}
	}
	if got, ok := number.Read("99999999999999999999", 20); got != 0 || ok {
		t.Errorf("a number that is too great is read as %d, %v", got, ok)
	}
}
