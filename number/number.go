// Package number: numbers in texts. Every layer that reads one reads it here, so that all of them hold to one form.
package number

import "strconv"

// Read a number of at most so many digits, without noughts ahead (but 0 itself); false, if the text is none.
func Read(s string, most int) (int, bool) {
	if s == "" || len(s) > most || s[0] == '0' && s != "0" {
		return 0, false
	}
	// Unsigned, as the signed reader would take a sign for a part of the number.
	n, err := strconv.ParseUint(s, 10, 31)
	if err != nil {
		return 0, false
	}
	return int(n), true
}
