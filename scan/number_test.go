package scan_test

import (
	"math"
	"strconv"
	"strings"
	"testing"

	"roster/api"
	"roster/scan"
)

func TestP1_3Number(t *testing.T) {
	most := strconv.Itoa(math.MaxInt)
	for _, x := range []struct {
		s    string
		most int
		want int
		err  api.Errno
	}{
		{"0", 0, 0, api.OK},
		{"000", 0, 0, api.OK},
		{"007", 9, 7, api.OK},
		{"9", 9, 9, api.OK},
		{"10", 9, 0, api.ErrRange},
		{"1", 0, 0, api.ErrRange},
		{"65535", 65535, 65535, api.OK},
		{"65536", 65535, 0, api.ErrRange},
		{"655350", 65535, 0, api.ErrRange},
		{"0", -1, 0, api.ErrRange},
		{"5", -7, 0, api.ErrRange},
		{"0", math.MinInt, 0, api.ErrRange},
		{"9", math.MinInt, 0, api.ErrRange},
		{most, math.MaxInt, math.MaxInt, api.OK},
		{"000" + most, math.MaxInt, math.MaxInt, api.OK},
		{most, math.MaxInt - 1, 0, api.ErrRange},
		{"9223372036854775808", math.MaxInt, 0, api.ErrRange},
		{"18446744073709551616", math.MaxInt, 0, api.ErrRange},
		{"18446744073709551623", 9, 0, api.ErrRange},
		{"99999999999999999999", 1 << 62, 0, api.ErrRange},
		{strings.Repeat("0", 5000) + "8", 9, 8, api.OK},
		{strings.Repeat("9", 5000), math.MaxInt, 0, api.ErrRange},
		{"", 9, 0, api.ErrNumber},
		{"", -1, 0, api.ErrNumber},
		{"-1", 9, 0, api.ErrNumber},
		{"+1", 9, 0, api.ErrNumber},
		{" 1", 9, 0, api.ErrNumber},
		{"1 ", 9, 0, api.ErrNumber},
		{"1a", 9, 0, api.ErrNumber},
		{"1_0", 99, 0, api.ErrNumber},
		{"\u0661", 9, 0, api.ErrNumber},
		{"10x", 9, 0, api.ErrNumber},
		{"x", -1, 0, api.ErrNumber},
		{"99999999999999999999x", 9, 0, api.ErrNumber},
	} {
		if n, err := scan.Number(x.s, x.most); n != x.want || err != x.err {
			t.Errorf("Number(%.30q, %d) = %d, %d", x.s, x.most, n, err)
		}
	}
}

func TestP1_3NumberBytes(t *testing.T) {
	for i := range 256 {
		n, err := scan.Number(string([]byte{'1', byte(i)}), 99)
		if i >= '0' && i <= '9' {
			if n != 10+i-'0' || err != api.OK {
				t.Errorf("1 and the byte %d: %d, %d", i, n, err)
			}
		} else if n != 0 || err != api.ErrNumber {
			t.Errorf("1 and the byte %d: %d, %d", i, n, err)
		}
	}
}

func TestP1_3NumberMost(t *testing.T) {
	for most := -3; most <= 130; most++ {
		for n := range 140 {
			got, err := scan.Number("0"+strconv.Itoa(n), most)
			if n > most && (got != 0 || err != api.ErrRange) || n <= most && (got != n || err != api.OK) {
				t.Fatalf("Number(0%d, %d) = %d, %d", n, most, got, err)
			}
		}
	}
}

func TestP1_3Digits(t *testing.T) {
	for n, want := range map[int]string{
		0:               "0",
		7:               "7",
		10:              "10",
		907:             "907",
		1000:            "1000",
		1 << 62:         "4611686018427387904",
		math.MaxInt:     "9223372036854775807",
		-1:              "",
		-10:             "",
		math.MinInt:     "",
		math.MinInt + 1: "",
	} {
		if got := scan.Digits(n); got != want {
			t.Errorf("Digits(%d) = %q", n, got)
		}
	}
}

func TestP1_7Digits(t *testing.T) {
	for shift := range 63 {
		for d := -2; d <= 2; d++ {
			n := 1<<shift + d
			if n < 0 {
				continue
			}
			s := scan.Digits(n)
			if s != strconv.Itoa(n) {
				t.Errorf("Digits(%d) = %q", n, s)
			}
			if got, err := scan.Number(s, n); got != n || err != api.OK {
				t.Errorf("Number(%q, %d) = %d, %d", s, n, got, err)
			}
		}
	}
}
