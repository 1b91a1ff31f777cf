package pidf_test

import (
	"fmt"
	"math"
	"strings"
	"testing"

	"roster/pidf"
)

func TestP14_2Decimal(t *testing.T) {
	for n, want := range map[int]string{
		0: "0", 1: "0.001", 5: "0.005", 10: "0.01", 11: "0.011", 50: "0.05", 99: "0.099", 100: "0.1", 101: "0.101", 110: "0.11", 120: "0.12", 123: "0.123", 500: "0.5", 900: "0.9", 990: "0.99", 999: "0.999", 1000: "1",
		-1: "", -2: "", 1001: "", 1500: "", 2000: "", -1000: "", math.MinInt: "", math.MaxInt: "", 1 << 32: "", 1<<32 + 500: "",
	} {
		if got := pidf.Decimal(n); got != want {
			t.Errorf("Decimal(%d) = %q", n, got)
		}
	}
}

// TestP14_2DecimalAll holds each decimal against the library's.
func TestP14_2DecimalAll(t *testing.T) {
	for n := range 1001 {
		want := fmt.Sprintf("%d.%03d", n/1000, n%1000)
		want = strings.TrimRight(strings.TrimRight(want, "0"), ".")
		if n == 0 {
			want = "0"
		}
		if got := pidf.Decimal(n); got != want {
			t.Errorf("Decimal(%d) = %q, not %q", n, got, want)
		}
	}
}

func TestP14_2Thousandths(t *testing.T) {
	for s, want := range map[string]int{
		"0": 0, "0.": 0, "0.0": 0, "0.00": 0, "0.000": 0, "0.001": 1, "0.01": 10, "0.010": 10, "0.05": 50, "0.050": 50, "0.1": 100, "0.10": 100, "0.100": 100, "0.5": 500, "0.12": 120, "0.123": 123, "0.9": 900, "0.999": 999,
		"1": 1000, "1.": 1000, "1.0": 1000, "1.00": 1000, "1.000": 1000,
	} {
		if got, ok := pidf.Thousandths(s); got != want || !ok {
			t.Errorf("Thousandths(%q) = %d, %t", s, got, ok)
		}
	}
	for _, s := range []string{
		"", ".", ".5", ".0", "..", "00", "01", "10", "00.5", "01.0", "2", "2.0", "9", "-0", "-1", "+1", "+0.5", "-0.5", " 0", "0 ", " 0.5", "0.5 ", "0. 5", "0 .5", "0.5\n", "0\n",
		"1.001", "1.01", "1.1", "1.5", "1.999", "1.0001", "1.0000", "0.0000", "0.1234", "0.5000", "0.00000000000000000000", "0.x", "0.5x", "0.5e", "0.1e1", "0.-1", "0.+1", "0.1.", "0..1", "0.1.2", "0.1.", "1..", "1.0.", "0,5", "1,0", "a", "0a", "x.5", "0x1",
		"0.٣", "٠", "0.é", "0.\xff", "0.\x00", "1\x00", "0.5/", "0.:", "0./", "1.:", "1./", "10.", "1000", "0000", "0.5%", "½", strings.Repeat("0", 5000), "0." + strings.Repeat("0", 5000), "1" + strings.Repeat("0", 5000),
	} {
		if got, ok := pidf.Thousandths(s); got != 0 || ok {
			t.Errorf("Thousandths(%q) = %d, %t", s, got, ok)
		}
	}
}

// TestP14_2ThousandthsAll asks for all short texts of some signs: those that
// may be are listed from the numbers.
func TestP14_2ThousandthsAll(t *testing.T) {
	known := map[string]int{"0.": 0, "1.": 1000, "0": 0, "1": 1000, "1.0": 1000, "1.00": 1000, "1.000": 1000}
	for n := range 1000 {
		known[fmt.Sprintf("0.%03d", n)] = n
		if n < 100 {
			known[fmt.Sprintf("0.%02d", n)] = 10 * n
		}
		if n < 10 {
			known[fmt.Sprintf("0.%d", n)] = 100 * n
		}
	}
	all := []string{""}
	from := 0
	for range 6 {
		to := len(all)
		for _, s := range all[from:to] {
			for _, c := range "0159./: " {
				all = append(all, s+string(c))
			}
		}
		from = to
	}
	for _, s := range all {
		want, may := known[s]
		if got, ok := pidf.Thousandths(s); got != want || ok != may {
			t.Errorf("Thousandths(%q) = %d, %t", s, got, ok)
		}
	}
	for s, want := range known {
		if got, ok := pidf.Thousandths(s); got != want || !ok {
			t.Errorf("Thousandths(%q) = %d, %t", s, got, ok)
		}
	}
}

func TestP14_5Decimal(t *testing.T) {
	for n := range 1001 {
		if got, ok := pidf.Thousandths(pidf.Decimal(n)); got != n || !ok {
			t.Errorf("%d is written as %q, and read as %d, %t", n, pidf.Decimal(n), got, ok)
		}
	}
}
