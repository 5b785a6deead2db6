package lamp

import "linkboy/api"

// field is a number of a lamp, or an enclosure: its word in a line, its range, and where it is in a lamp.
// One of number and enclosure is nil.
type field struct {
	word        string
	least, most int
	number      func(l *api.LmLamp) *int
	enclosure   func(l *api.LmLamp) *api.Encl
}

// lampFields returns the fields of a lamp, in the order of its line.
func lampFields() [9]field {
	return [...]field{
		{word: "lumens", least: 1, most: api.MaxLumens, number: func(l *api.LmLamp) *int { return &l.Lumens }},
		{word: "power", least: 1, most: api.MaxPower, number: func(l *api.LmLamp) *int { return &l.Power }},
		{word: "standing", least: 0, most: api.MaxPower, number: func(l *api.LmLamp) *int { return &l.Standing }},
		{word: "tolerance", least: 0, most: api.All, number: func(l *api.LmLamp) *int { return &l.Tolerance }},
		{word: "ageing", least: 0, most: api.All, enclosure: func(l *api.LmLamp) *api.Encl { return &l.Ageing }},
		{word: "dirt", least: 0, most: api.All, enclosure: func(l *api.LmLamp) *api.Encl { return &l.Dirt }},
		{word: "life", least: 1, most: api.MaxHours, number: func(l *api.LmLamp) *int { return &l.Life }},
		{word: "dim", least: 0, most: api.All, number: func(l *api.LmLamp) *int { return &l.Dim }},
		{word: "restrike", least: 0, most: api.MaxRestrike, number: func(l *api.LmLamp) *int { return &l.Restrike }},
	}
}

// isInRange reports whether the field of a lamp is in its range.
func (f *field) isInRange(l *api.LmLamp) bool {
	if f.number != nil {
		return within(*f.number(l), f.least, f.most)
	}
	x := f.enclosure(l)
	return f.least <= x.Lo && x.Lo <= x.Hi && x.Hi <= f.most
}

// text returns the field of a lamp as it is in a line.
func (f *field) text(l *api.LmLamp) string {
	if f.number != nil {
		return numberText(*f.number(l))
	}
	return enclosureText(*f.enclosure(l))
}

// read sets the field of a lamp, and reports whether the word is such a field.
func (f *field) read(l *api.LmLamp, word string) (ok bool) {
	if f.number != nil {
		*f.number(l), ok = readNumber(word)
	} else {
		*f.enclosure(l), ok = readEnclosure(word)
	}
	return ok
}

// kindName is a kind of lamps, and its word.
type kindName struct {
	kind int
	word string
}

var kindNames = [3]kindName{{api.LmLed, "led"}, {api.LmSodium, "sodium"}, {api.LmMetal, "metal"}}

// kindWord returns the word of a kind, or none, if it is no kind.
func kindWord(n int) string {
	for _, k := range kindNames {
		if k.kind == n {
			return k.word
		}
	}
	return ""
}

// readKind returns the kind that has a word.
func readKind(word string) (n int, ok bool) {
	for _, k := range kindNames {
		if k.word == word {
			return k.kind, true
		}
	}
	return 0, false
}
