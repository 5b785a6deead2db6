package lamp

import "linkboy/api"

// Parts of a catalogue, as Check returns them.
const (
	partTables = 1
	partLamps  = 2
)

const minGrid = 2 // tangents of a table, each way

// Name reports whether a string is a name.
func Name(s string) bool {
	if len(s) < 1 || len(s) > api.MaxName || !isLetter(s[0]) {
		return false
	}
	for i := range len(s) {
		if !isLetter(s[i]) && !isDigit(s[i]) && s[i] != '-' {
			return false
		}
	}
	return true
}

// Check checks a catalogue.
func Check(c api.LmCatalog) (part, at int, e api.Errno) {
	if len(c.Tables) > api.MaxTables || len(c.Lamps) > api.MaxLamps {
		return 0, 0, api.ErrLong
	}
	for i := range c.Tables {
		if e := checkTable(c.Tables, i); e != api.OK {
			return partTables, i, e
		}
	}
	fields := lampFields()
	for i := range c.Lamps {
		if e := checkLamp(&c, i, fields[:]); e != api.OK {
			return partLamps, i, e
		}
	}
	return 0, 0, api.OK
}

// checkTable returns the first error of a table.
func checkTable(tables []api.LmTable, at int) api.Errno {
	t := &tables[at]
	switch {
	case !Name(t.Name):
		return api.ErrForm
	case position(tables[:at], t.Name, tableName) >= 0:
		return api.ErrTwice
	case !within(len(t.Us), minGrid, api.MaxGrid) || !within(len(t.Vs), minGrid, api.MaxGrid):
		return api.ErrLong
	case !allWithin(t.Us, -api.MaxTan, api.MaxTan) || !allWithin(t.Vs, -api.MaxTan, api.MaxTan):
		return api.ErrRange
	case !ascends(t.Us) || !ascends(t.Vs):
		return api.ErrArg
	case !isShaped(t):
		return api.ErrForm
	case !isBounded(t):
		return api.ErrRange
	}
	return api.OK
}

// checkLamp returns the first error of a lamp.
func checkLamp(c *api.LmCatalog, at int, fields []field) api.Errno {
	l := &c.Lamps[at]
	switch {
	case !Name(l.Name):
		return api.ErrForm
	case position(c.Lamps[:at], l.Name, lampName) >= 0:
		return api.ErrTwice
	case l.Table < 0 || l.Table >= len(c.Tables):
		return api.ErrNone
	case kindWord(l.Kind) == "":
		return api.ErrArg
	case !areInRange(l, fields) || l.Standing > l.Power:
		return api.ErrRange
	case l.Kind == api.LmLed && l.Restrike != 0:
		return api.ErrArg
	}
	return api.OK
}

// isShaped reports whether a table has a value for each pair of tangents.
func isShaped(t *api.LmTable) bool {
	if !sameLength(t.Values, t.Us) {
		return false
	}
	for _, row := range t.Values {
		if !sameLength(row, t.Vs) {
			return false
		}
	}
	return true
}

// isBounded reports whether all intensities of a table are in their range.
func isBounded(t *api.LmTable) bool {
	for _, row := range t.Values {
		if !allWithin(row, 0, api.MaxIntensity) {
			return false
		}
	}
	return within(t.Side, 0, api.MaxIntensity) && within(t.Sky, 0, api.MaxIntensity)
}

// areInRange reports whether all numbers and enclosures of a lamp are in their ranges.
func areInRange(l *api.LmLamp, fields []field) bool {
	for i := range fields {
		if !fields[i].isInRange(l) {
			return false
		}
	}
	return true
}

// sameLength reports whether two lists have as many elements.
func sameLength[S, T any](a []S, b []T) bool { return len(a) == len(b) }

// position returns where the first element of a list with a name is, or -1.
func position[T any](list []T, name string, nameOf func(*T) string) int {
	for i := range list {
		if nameOf(&list[i]) == name {
			return i
		}
	}
	return -1
}

func tableName(t *api.LmTable) string { return t.Name }

func lampName(l *api.LmLamp) string { return l.Name }

// allWithin reports whether all numbers of a list are in a range.
func allWithin(list []int, least, most int) bool {
	for _, n := range list {
		if !within(n, least, most) {
			return false
		}
	}
	return true
}

// ascends reports whether each number of a list is above the one before it.
func ascends(list []int) bool {
	for i := range len(list) - 1 {
		if list[i] >= list[i+1] {
			return false
		}
	}
	return true
}

func isLetter(b byte) bool { return 'a' <= b && b <= 'z' }

func isDigit(b byte) bool { return '0' <= b && b <= '9' }
