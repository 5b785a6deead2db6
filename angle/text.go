package angle

import (
	"strconv"
	"strings"

	"linkboy/api"
)

const (
	wholeDigits    = 3
	fractionDigits = 6 // as many as api.Degree has zeros
)

// mark is a letter behind an angle: the axis and the direction on it, and the greatest angle there.
type mark struct {
	letter           string
	axis, sign, most int
}

var marks = [4]mark{
	{"N", api.AnNorth, 1, 90 * api.Degree},
	{"S", api.AnNorth, -1, 90 * api.Degree},
	{"E", api.AnEast, 1, 180 * api.Degree},
	{"W", api.AnEast, -1, 180 * api.Degree},
}

// Read reads an angle on the earth.
func Read(s string) (a, axis int, e api.Errno) {
	if len(s) > api.MaxAnText {
		return 0, 0, api.ErrLong
	}
	m, digits, ok := splitMark(s)
	if !ok {
		return 0, 0, api.ErrForm
	}
	size, ok := readSize(digits)
	if !ok {
		return 0, 0, api.ErrForm
	}
	if size > m.most {
		return 0, 0, api.ErrRange
	}
	return m.sign * size, m.axis, api.OK
}

// Write writes an angle on the earth.
func Write(a, axis int) (string, api.Errno) {
	sign := 1
	if a < 0 {
		sign = -1
	}
	for _, m := range marks {
		if m.axis != axis || m.sign != sign {
			continue
		}
		if a < -m.most || a > m.most {
			return "", api.ErrRange
		}
		return writeSize(sign*a) + m.letter, api.OK
	}
	return "", api.ErrArg
}

// splitMark returns the mark whose letter ends s, and what is before it.
func splitMark(s string) (m mark, before string, ok bool) {
	for _, m = range marks {
		if before, ok = strings.CutSuffix(s, m.letter); ok {
			return m, before, true
		}
	}
	return mark{}, "", false
}

// readSize reads degrees with an optional fraction, as millionths.
func readSize(s string) (size int, ok bool) {
	degrees, fraction, pointed := strings.Cut(s, ".")
	if !isDigits(degrees, wholeDigits) || pointed && !isDigits(fraction, fractionDigits) {
		return 0, false
	}
	zeros := strings.Repeat("0", fractionDigits-len(fraction))
	return number(degrees + fraction + zeros), true
}

// writeSize writes millionths of a degree, from 0 on, as degrees.
func writeSize(size int) string {
	degrees := strconv.Itoa(size / api.Degree)
	if size%api.Degree == 0 {
		return degrees
	}
	// The degree that is added keeps the zeros behind the point.
	fraction := strconv.Itoa(api.Degree + size%api.Degree)[1:]
	return degrees + "." + strings.TrimRight(fraction, "0")
}

// isDigits reports whether s is from 1 to most decimal digits.
func isDigits(s string, most int) bool {
	for i := range len(s) {
		if s[i] < '0' || s[i] > '9' {
			return false
		}
	}
	return len(s) >= 1 && len(s) <= most
}

// number returns the number that digits stand for.
func number(digits string) int {
	n := 0
	for i := range len(digits) {
		n = 10*n + int(digits[i]-'0')
	}
	return n
}
