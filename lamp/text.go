package lamp

import (
	"strconv"
	"strings"

	"linkboy/api"
)

// Words of lines.
const (
	wordTable = "table"
	wordUs    = "us"
	wordVs    = "vs"
	wordRow   = "row"
	wordSide  = "side"
	wordSky   = "sky"
	wordLamp  = "lamp"
)

const (
	space     = " "
	lineFeed  = "\n"
	dots      = ".."
	maxDigits = 9
)

// Print writes a catalogue.
func Print(c api.LmCatalog) (string, api.Errno) {
	if _, _, e := Check(c); e != api.OK {
		return "", e
	}
	var b strings.Builder
	for i := range c.Tables {
		printTable(&b, &c.Tables[i])
	}
	for i := range c.Lamps {
		printLamp(&b, &c, &c.Lamps[i])
	}
	if b.Len() > api.MaxLmText {
		return "", api.ErrLong
	}
	return b.String(), api.OK
}

// printTable writes the lines of a table.
func printTable(b *strings.Builder, t *api.LmTable) {
	printLine(b, wordTable, t.Name)
	printNumbers(b, wordUs, t.Us...)
	printNumbers(b, wordVs, t.Vs...)
	for _, row := range t.Values {
		printNumbers(b, wordRow, row...)
	}
	printNumbers(b, wordSide, t.Side)
	printNumbers(b, wordSky, t.Sky)
}

// printLamp writes the line of a lamp.
func printLamp(b *strings.Builder, c *api.LmCatalog, l *api.LmLamp) {
	words := []string{wordLamp, l.Name, c.Tables[l.Table].Name, kindWord(l.Kind)}
	for _, f := range lampFields() {
		words = append(words, f.word, f.text(l))
	}
	printLine(b, words...)
}

// printNumbers writes a line of a word and numbers.
func printNumbers(b *strings.Builder, word string, list ...int) {
	words := []string{word}
	for _, n := range list {
		words = append(words, numberText(n))
	}
	printLine(b, words...)
}

// printLine writes a line of words.
func printLine(b *strings.Builder, words ...string) {
	b.WriteString(strings.Join(words, space))
	b.WriteString(lineFeed)
}

func numberText(n int) string { return strconv.Itoa(n) }

func enclosureText(x api.Encl) string { return numberText(x.Lo) + dots + numberText(x.Hi) }

// Parse reads a catalogue.
func Parse(s string) (c api.LmCatalog, line int, e api.Errno) {
	if len(s) > api.MaxLmText {
		return api.LmCatalog{}, 0, api.ErrLong
	}
	var d draft
	if !d.read(s) {
		return api.LmCatalog{}, d.line, api.ErrForm
	}
	if part, at, e := Check(d.c); e != api.OK {
		return api.LmCatalog{}, d.lineOf(part, at), e
	}
	return d.c, 0, api.OK
}

// draft is a catalogue that is being read.
type draft struct {
	c             api.LmCatalog
	line          int   // the number of the line that is read
	tables, lamps []int // the numbers of the lines with which they begin
}

// reader takes the words of a line, and returns the reader of the next one. It also reports whether the line may be
// here; the end of the text is a line without words.
type reader func(words []string) (next reader, ok bool)

// read reads all lines of a text, up to the first one that may not be where it is.
func (d *draft) read(s string) bool {
	take := reader(d.table)
	for s != "" {
		line, rest, ended := strings.Cut(s, lineFeed)
		d.line++
		words, ok := splitWords(line)
		if !ended || !ok {
			return false
		}
		if take, ok = take(words); !ok {
			return false
		}
		s = rest
	}
	d.line++
	_, ok := take(nil)
	return ok
}

// lineOf returns the number of the line with which an element of a part begins.
func (d *draft) lineOf(part, at int) int {
	switch part {
	case partTables:
		return d.tables[at]
	case partLamps:
		return d.lamps[at]
	}
	return 0
}

// table reads the first line of a table. Instead of it the lamps may begin.
func (d *draft) table(words []string) (reader, bool) {
	if !begins(words, wordTable) {
		return d.lamp(words)
	}
	if len(words) != 2 {
		return nil, false
	}
	d.tables = append(d.tables, d.line)
	// The names are copies, so that a catalogue does not hold the text from which it was read.
	d.c.Tables = append(d.c.Tables, api.LmTable{Name: strings.Clone(words[1])})
	t := &d.c.Tables[len(d.c.Tables)-1] // no table comes before this one is complete
	return listReader(wordUs, &t.Us, listReader(wordVs, &t.Vs, d.rowReader(t))), true
}

// rowReader returns the reader of a row of a table, or of what is behind the last one.
func (d *draft) rowReader(t *api.LmTable) reader {
	return func(words []string) (reader, bool) {
		if sameLength(t.Values, t.Us) {
			return numberReader(wordSide, &t.Side, numberReader(wordSky, &t.Sky, d.table))(words)
		}
		row, ok := readNumbers(wordRow, words)
		t.Values = append(t.Values, row)
		return d.rowReader(t), ok
	}
}

// listReader returns the reader of a line of numbers.
func listReader(word string, to *[]int, next reader) reader {
	return func(words []string) (reader, bool) {
		list, ok := readNumbers(word, words)
		*to = list
		return next, ok
	}
}

// numberReader returns the reader of a line of one number.
func numberReader(word string, to *int, next reader) reader {
	return func(words []string) (reader, bool) {
		list, ok := readNumbers(word, words)
		if !ok || len(list) != 1 {
			return nil, false
		}
		*to = list[0]
		return next, true
	}
}

// lamp reads the line of a lamp, or the end of the text.
func (d *draft) lamp(words []string) (reader, bool) {
	if len(words) == 0 {
		return nil, true
	}
	l, ok := readLamp(words, d.c.Tables)
	d.c.Lamps = append(d.c.Lamps, l)
	d.lamps = append(d.lamps, d.line)
	return d.lamp, ok
}

// readLamp reads the line of a lamp.
func readLamp(words []string, tables []api.LmTable) (l api.LmLamp, ok bool) {
	const before = 4 // words before the fields
	fields := lampFields()
	if len(words) != before+2*len(fields) || words[0] != wordLamp {
		return l, false
	}
	l.Name = strings.Clone(words[1])
	if l.Table = position(tables, words[2], tableName); l.Table < 0 {
		return l, false
	}
	if l.Kind, ok = readKind(words[3]); !ok {
		return l, false
	}
	for i, f := range fields {
		at := before + 2*i
		if words[at] != f.word || !f.read(&l, words[at+1]) {
			return l, false
		}
	}
	return l, true
}

// splitWords returns the words of a line.
func splitWords(line string) (words []string, ok bool) {
	words = strings.Split(line, space)
	for _, w := range words {
		if w == "" {
			return nil, false
		}
	}
	return words, true
}

// begins reports whether a line has a word at its beginning.
func begins(words []string, word string) bool { return len(words) > 0 && words[0] == word }

// readNumbers reads a line of a word and numbers.
func readNumbers(word string, words []string) (list []int, ok bool) {
	if !begins(words, word) {
		return nil, false
	}
	for _, w := range words[1:] {
		n, ok := readNumber(w)
		if !ok {
			return nil, false
		}
		list = append(list, n)
	}
	return list, true
}

// readNumber reads a number.
func readNumber(s string) (n int, ok bool) {
	digits, below := strings.CutPrefix(s, "-")
	if len(digits) < 1 || len(digits) > maxDigits || digits[0] == '0' && s != "0" {
		return 0, false
	}
	for i := range len(digits) {
		if !isDigit(digits[i]) {
			return 0, false
		}
		n = 10*n + int(digits[i]-'0')
	}
	if below {
		n = -n
	}
	return n, true
}

// readEnclosure reads an enclosure.
func readEnclosure(s string) (x api.Encl, ok bool) {
	lo, hi, ok := strings.Cut(s, dots)
	if !ok {
		return api.Encl{}, false
	}
	a, isLo := readNumber(lo)
	b, isHi := readNumber(hi)
	return api.Encl{Lo: a, Hi: b}, isLo && isHi
}
