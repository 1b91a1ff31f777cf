package pidf

import (
	"strings"

	"roster/api"
	"roster/scan"
)

// whole is how many thousandths one has, and places how many digits stand
// behind its point.
const (
	whole  = 1000
	places = 3
)

// Decimal writes thousandths; empty, if they are not from 0 to 1000.
func Decimal(n int) string {
	if n < 0 || n > whole {
		return ""
	}
	ones, rest := scan.Digits(n/whole), n%whole
	if rest == 0 {
		return ones
	}
	// One stands ahead of the rest, and is cut off: so its noughts are written, too.
	digits := scan.Digits(whole + rest)[1:]
	return ones + "." + strings.TrimRight(digits, "0")
}

// Thousandths reads a number from 0 to 1.
func Thousandths(s string) (int, bool) {
	ones, rest, _ := strings.Cut(s, ".")
	if ones != "0" && ones != "1" || len(rest) > places {
		return 0, false
	}
	digits := rest + strings.Repeat("0", places-len(rest))
	n, err := scan.Number(ones+digits, whole)
	return n, err == api.OK
}
