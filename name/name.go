// Package name: names of who has an address. Every layer that is handed one asks here, so that all of them hold to one form.
package name

import "yardarm/api"

// Right: is it a name? It is gone through by bytes, as no byte of a longer sign is a small letter or a digit.
func Right(s string) bool {
	if len(s) < 1 || len(s) > api.MaxWho {
		return false
	}
	for i := range len(s) {
		if !(s[i] >= 'a' && s[i] <= 'z' || s[i] >= '0' && s[i] <= '9') {
			return false
		}
	}
	return true
}
