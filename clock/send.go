package clock

import "roster/api"

// Waits tells how long a request waits behind its n-th sending.
func Waits(n int) int {
	if n < 1 {
		return 0
	}
	wait := api.T1
	// Doubled no further than to T2, so that a great n neither takes long nor goes round.
	for i := 1; i < n && wait < api.T2; i++ {
		wait *= 2
	}
	return min(wait, api.T2)
}

// At tells when the n-th sending is, from the first one on; false: there is none.
func At(n int) (int, bool) {
	if n < 1 {
		return 0, false
	}
	at := 0
	for i := 1; i < n; i++ {
		at += Waits(i)
		// Every sending behind this one is later still.
		if at >= api.T64 {
			return 0, false
		}
	}
	return at, true
}
