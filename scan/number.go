package scan

import "roster/api"

// mostDigits is how many digits an int has at most.
const mostDigits = 19

// Number reads digits.
func Number(s string, most int) (int, api.Errno) {
	if s == "" || !All(s, Digit) {
		return 0, api.ErrNumber
	}
	n := 0
	for i := range len(s) {
		digit := int(s[i] - '0')
		// Asked ahead of the sum, which might not fit into an int.
		if digit > most || n > (most-digit)/10 {
			return 0, api.ErrRange
		}
		n = 10*n + digit
	}
	return n, api.OK
}

// Digits writes a number; empty below nought.
func Digits(n int) string {
	if n < 0 {
		return ""
	}
	var room [mostDigits]byte
	at := len(room)
	// The lowest digit comes first, so they are written from the end; nought has one, too.
	for {
		at--
		room[at] = '0' + byte(n%10)
		n /= 10
		if n == 0 {
			return string(room[at:])
		}
	}
}
