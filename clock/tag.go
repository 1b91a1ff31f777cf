package clock

import (
	"strings"

	"roster/api"
)

// What a tag is made of: letters stands in the order of what each is worth.
const (
	letters      = "abcdefghijklmnopqrstuvwxyz234567"
	letterBits   = 5
	drawLetters  = 13
	countLetters = 9
)

// Tag makes a tag of a draw, and of how many were made ahead of it.
func Tag(draw uint64, count int) (string, api.Errno) {
	if !isTick(count) {
		return "", api.ErrRange
	}
	return write(draw, drawLetters) + write(uint64(count), countLetters), api.OK
}

// Read reads a tag.
func Read(s string) (uint64, int, api.Errno) {
	if len(s) != drawLetters+countLetters {
		return 0, 0, api.ErrNumber
	}
	draw, ok := read(s[:drawLetters])
	if !ok {
		return 0, 0, api.ErrNumber
	}
	count, ok := read(s[drawLetters:])
	// Nine letters hold more than MaxTick, but no tag is made of more.
	if !ok || count > api.MaxTick {
		return 0, 0, api.ErrNumber
	}
	return draw, int(count), api.OK
}

// write writes the lowest bits of a number in so many letters, the lowest first.
func write(n uint64, many int) string {
	var b strings.Builder
	for range many {
		b.WriteByte(letters[n%uint64(len(letters))])
		n >>= letterBits
	}
	return b.String()
}

// read reads what write wrote; false: there is a byte that is no letter, or a bit that no uint64 has.
func read(s string) (uint64, bool) {
	n := uint64(0)
	for i := range len(s) {
		worth := strings.IndexByte(letters, s[i])
		if worth < 0 {
			return 0, false
		}
		shift := i * letterBits
		bits := uint64(worth) << shift
		// The thirteenth letter of a draw has a bit too many: shifted out, it would be lost unseen.
		if bits>>shift != uint64(worth) {
			return 0, false
		}
		n |= bits
	}
	return n, true
}
