// Package line: see doc/01-line.md.
package line

import (
	"strings"

	"gangsaw/api"
)

const feed = '\n'

// Of answers the lines of b, without the line feeds that end them.
func Of(b []byte) ([]string, api.Errno) {
	if len(b) > api.MaxBytes {
		return nil, api.ErrMany
	}
	return All(b), api.OK
}

// Bytes answers the lines one behind the other, each ended by a line feed.
func Bytes(l []string) ([]byte, api.Errno) {
	room := api.MaxBytes
	for _, s := range l {
		if strings.IndexByte(s, feed) >= 0 {
			return nil, api.ErrForm
		}
		if len(s) >= room { // its end needs a byte, too
			return nil, api.ErrMany
		}
		room -= len(s) + 1
	}
	return Ended(l), api.OK
}

// Split answers so many parts of b, each of whole lines, as even as can be.
func Split(b []byte, parts int) ([][]byte, api.Errno) {
	lines, e := Of(b)
	if e != api.OK {
		return nil, e
	}
	return Parts(lines, parts)
}

// All answers what Of does, however many bytes there are.
func All(b []byte) []string {
	var lines []string
	start := 0
	for i, c := range b {
		if c == feed {
			lines = append(lines, string(b[start:i]))
			start = i + 1
		}
	}
	if start < len(b) {
		lines = append(lines, string(b[start:]))
	}
	return lines
}

// Parts answers what Split does, of lines, however many bytes they have.
func Parts(lines []string, parts int) ([][]byte, api.Errno) {
	if parts < 1 || parts > api.MaxWidth {
		return nil, api.ErrRange
	}
	n := len(lines)
	out := make([][]byte, parts)
	for k := range parts {
		out[k] = Ended(lines[k*n/parts : (k+1)*n/parts])
	}
	return out, api.OK
}

// Ended answers the lines, each ended by a line feed. It has no limit of its own: a last line that had no end gets one, which may be a byte above api.MaxBytes.
func Ended(l []string) []byte {
	var out []byte
	for _, s := range l {
		out = append(out, s...)
		out = append(out, feed)
	}
	return out
}
