package frame

import (
	"strings"

	"roster/api"
	"roster/scan"
)

// Print writes a message.
func Print(m api.Msg) (string, api.Errno) {
	if err := Check(m); err != api.OK {
		return "", err
	}
	pieces := startPieces(m)
	for _, h := range m.Headers {
		pieces = append(pieces, h.Name, ": ", h.Value, lineEnd)
	}
	pieces = append(pieces, lengthName, ": ", scan.Digits(len(m.Body)), lineEnd, lineEnd, m.Body)
	// Measured ahead of being put together: nothing limits a Value or a Body.
	if lengthOf(pieces) > api.MaxBytes {
		return "", api.ErrLong
	}
	return strings.Join(pieces, ""), api.OK
}

// startPieces are the pieces of a first line.
func startPieces(m api.Msg) []string {
	if m.Method == "" {
		return []string{version, " ", scan.Digits(m.Status), " ", m.Reason, lineEnd}
	}
	return []string{m.Method, " ", m.Target, " ", version, lineEnd}
}

// lengthOf tells how long pieces are together.
func lengthOf(pieces []string) int {
	n := 0
	for _, piece := range pieces {
		n += len(piece)
	}
	return n
}
