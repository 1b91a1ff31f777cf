package clock_test

import (
	"math"
	"strings"
	"testing"

	"roster/api"
	"roster/clock"
)

// draws and counts are numbers whose tags are read again: small ones, those of one bit, their neighbours, and the greatest.
func draws() []uint64 {
	l := []uint64{0, 12345678901234567890, 0x5555555555555555, 0xaaaaaaaaaaaaaaaa}
	for shift := range 64 {
		bit := uint64(1) << shift
		l = append(l, bit-1, bit, bit+1, ^bit)
	}
	return l
}

func counts() []int {
	l := []int{0, 1000, api.MaxTick - 1, api.MaxTick}
	for shift := range 40 {
		l = append(l, 1<<shift-1, 1<<shift, 1<<shift+1)
	}
	return l
}

func TestP2_3Tag(t *testing.T) {
	for _, x := range []struct {
		draw  uint64
		count int
		want  string
	}{
		{0, 0, "aaaaaaaaaaaaaaaaaaaaaa"},
		{1, 2, "baaaaaaaaaaaacaaaaaaaa"},
		{25, 26, "zaaaaaaaaaaaa2aaaaaaaa"},
		{31, 30, "7aaaaaaaaaaaa6aaaaaaaa"},
		{32, 33, "abaaaaaaaaaaabbaaaaaaa"},
		{1 << 63, 0, "aaaaaaaaaaaaiaaaaaaaaa"},
		{1<<64 - 1, 0, "777777777777paaaaaaaaa"},
		{0, api.MaxTick, "aaaaaaaaaaaaaaaaaaaaab"},
		{0, api.MaxTick - 1, "aaaaaaaaaaaaa77777777a"},
		{1<<64 - 1, api.MaxTick, "777777777777paaaaaaaab"},
		{26 | 27<<5 | 28<<10 | 29<<15 | 30<<20 | 31<<25, 25, "234567aaaaaaazaaaaaaaa"},
	} {
		got, err := clock.Tag(x.draw, x.count)
		if got != x.want || err != api.OK {
			t.Errorf("Tag(%d, %d) = %q, %d", x.draw, x.count, got, err)
		}
	}
}

func TestP2_3TagRange(t *testing.T) {
	for _, count := range []int{-1, -1000, math.MinInt, api.MaxTick + 1, 1<<45 - 1, 1 << 45, 1<<45 + 1, math.MaxInt} {
		for _, draw := range []uint64{0, 1, 1<<64 - 1} {
			if s, err := clock.Tag(draw, count); s != "" || err != api.ErrRange {
				t.Errorf("Tag(%d, %d) = %q, %d", draw, count, s, err)
			}
		}
	}
}

func TestP2_3TagLetters(t *testing.T) {
	letters := "abcdefghijklmnopqrstuvwxyz234567"
	for i := range 32 {
		for at := range 12 {
			want := strings.Repeat("a", at) + letters[i:i+1] + strings.Repeat("a", 21-at)
			if s, err := clock.Tag(uint64(i)<<(5*at), 0); s != want || err != api.OK {
				t.Errorf("%d as letter %d of a draw: %q, %d", i, at, s, err)
			}
		}
		for at := range 8 {
			want := strings.Repeat("a", 13+at) + letters[i:i+1] + strings.Repeat("a", 8-at)
			if s, err := clock.Tag(0, i<<(5*at)); s != want || err != api.OK {
				t.Errorf("%d as letter %d of a count: %q, %d", i, at, s, err)
			}
		}
	}
}

func TestP2_3Read(t *testing.T) {
	for _, x := range []struct {
		s     string
		draw  uint64
		count int
	}{
		{"aaaaaaaaaaaaaaaaaaaaaa", 0, 0},
		{"baaaaaaaaaaaacaaaaaaaa", 1, 2},
		{"777777777777paaaaaaaab", 1<<64 - 1, api.MaxTick},
		{"aaaaaaaaaaaaa77777777a", 0, api.MaxTick - 1},
		{"234567aaaaaaazaaaaaaaa", 26 | 27<<5 | 28<<10 | 29<<15 | 30<<20 | 31<<25, 25},
	} {
		draw, count, err := clock.Read(x.s)
		if draw != x.draw || count != x.count || err != api.OK {
			t.Errorf("Read(%q) = %d, %d, %d", x.s, draw, count, err)
		}
	}
}

func TestP2_3ReadWrong(t *testing.T) {
	for _, s := range []string{
		"",
		"a",
		"aaaaaaaaaaaaa",
		"aaaaaaaaaaaaaaaaaaaaa",
		"aaaaaaaaaaaaaaaaaaaaaaa",
		"baaaaaaaaaaaacaaaaaaaa ",
		" baaaaaaaaaaaacaaaaaaa",
		"Baaaaaaaaaaaacaaaaaaaa",
		"baaaaaaaaaaaaCaaaaaaaa",
		"aaaaaaaaaaaaqaaaaaaaaa",
		"777777777777qaaaaaaaaa",
		"aaaaaaaaaaaa7aaaaaaaaa",
		"7777777777777777777777",
		"aaaaaaaaaaaaabaaaaaaab",
		"aaaaaaaaaaaaaaaaaaaabb",
		"aaaaaaaaaaaaaaaaaaaaac",
		"aaaaaaaaaaaaaaaaaaaaa7",
		"\u0430aaaaaaaaaaaaaaaaaaaa",
		strings.Repeat("a", 44),
		strings.Repeat("a", 5000),
	} {
		if draw, count, err := clock.Read(s); draw != 0 || count != 0 || err != api.ErrNumber {
			t.Errorf("Read(%.30q) = %d, %d, %d", s, draw, count, err)
		}
	}
}

// Every byte at every place of a tag: Read answers just those numbers whose Tag the text is.
func TestP2_3ReadBytes(t *testing.T) {
	for at := range 22 {
		for i := range 256 {
			b := []byte("baaaaaaaaaaaacaaaaaaaa")
			b[at] = byte(i)
			draw, count, err := clock.Read(string(b))
			if !isLetter(at, i) {
				if draw != 0 || count != 0 || err != api.ErrNumber {
					t.Errorf("byte %d at %d: %d, %d, %d", i, at, draw, count, err)
				}
				continue
			}
			if s, _ := clock.Tag(draw, count); s != string(b) || err != api.OK {
				t.Errorf("byte %d at %d: %d, %d, %d", i, at, draw, count, err)
			}
		}
	}
}

// isLetter tells whether a byte may stand at a place of a tag whose count is 2 otherwise.
func isLetter(at, b int) bool {
	switch at {
	case 12:
		return b >= 'a' && b <= 'p'
	case 21:
		return b == 'a'
	}
	return b >= 'a' && b <= 'z' || b >= '2' && b <= '7'
}

func TestP2_4ReadAgain(t *testing.T) {
	for _, draw := range draws() {
		for _, count := range counts() {
			s, err := clock.Tag(draw, count)
			if len(s) != 22 || err != api.OK {
				t.Fatalf("Tag(%d, %d) = %q, %d", draw, count, s, err)
			}
			if d, n, err := clock.Read(s); d != draw || n != count || err != api.OK {
				t.Fatalf("Read(%q) = %d, %d, %d, not %d, %d", s, d, n, err, draw, count)
			}
		}
	}
}

func TestP2_4Unlike(t *testing.T) {
	type made struct {
		draw  uint64
		count int
	}
	of := map[string]made{}
	for _, draw := range draws() {
		for _, count := range counts() {
			s, _ := clock.Tag(draw, count)
			if was, ok := of[s]; ok && was != (made{draw, count}) {
				t.Fatalf("%q is the tag of %v and of %v", s, was, made{draw, count})
			}
			of[s] = made{draw, count}
		}
	}
}
