package lamp_test

import (
	"math/rand"
	"reflect"
	"slices"
	"strings"
	"testing"

	"linkboy/api"
	"linkboy/lamp"
)

// P2.2: the catalogue of the examples.
func TestPrintAndParseExample(t *testing.T) {
	if s, e := lamp.Print(example()); s != wide+head || e != api.OK {
		t.Errorf("Print = %q, %d", s, e)
	}
	if c, line, e := lamp.Parse(wide + head); !reflect.DeepEqual(c, example()) || line != 0 || e != api.OK {
		t.Errorf("Parse = %v, %d, %d", c, line, e)
	}
}

// P2.2
func TestPrintAndParseNothing(t *testing.T) {
	if s, e := lamp.Print(api.LmCatalog{}); s != "" || e != api.OK {
		t.Errorf("Print = %q, %d", s, e)
	}
	if c, line, e := lamp.Parse(""); len(c.Tables) != 0 || len(c.Lamps) != 0 || line != 0 || e != api.OK {
		t.Errorf("Parse = %v, %d, %d", c, line, e)
	}
}

// P2.2: the words of the kinds, the tables by their names, and the order of a lamp's numbers.
func TestTextOfLamps(t *testing.T) {
	c := two()
	c.Lamps[0] = api.LmLamp{
		Name: "a", Table: 1, Kind: api.LmSodium, Lumens: 1, Power: 3, Standing: 2, Tolerance: 4,
		Ageing: encl(5, 6), Dirt: encl(7, 8), Life: 9, Dim: 10, Restrike: 11,
	}
	c.Lamps[1] = c.Lamps[0]
	c.Lamps[1].Name, c.Lamps[1].Kind, c.Lamps[1].Table, c.Lamps[1].Ageing = "b", api.LmMetal, 0, encl(0, 0)
	want := wide + strings.Replace(wide, "wide", "other", 1) +
		"lamp a other sodium lumens 1 power 3 standing 2 tolerance 4 ageing 5..6 dirt 7..8 life 9 dim 10 restrike 11\n" +
		"lamp b wide metal lumens 1 power 3 standing 2 tolerance 4 ageing 0..0 dirt 7..8 life 9 dim 10 restrike 11\n"
	if s, e := lamp.Print(c); s != want || e != api.OK {
		t.Errorf("Print = %q, %d", s, e)
	}
	if d, line, e := lamp.Parse(want); !reflect.DeepEqual(d, c) || line != 0 || e != api.OK {
		t.Errorf("Parse = %v, %d, %d", d, line, e)
	}
}

// P2.2: the greatest catalogue has a text, too.
func TestPrintMost(t *testing.T) {
	s, e := lamp.Print(most())
	if e != api.OK || len(s) > api.MaxLmText {
		t.Fatalf("Print: %d bytes, %d", len(s), e)
	}
	if c, line, e := lamp.Parse(s); !reflect.DeepEqual(c, most()) || line != 0 || e != api.OK {
		t.Errorf("Parse: %d, %d", line, e)
	}
}

// P2.8
func TestParseOfPrint(t *testing.T) {
	r := rand.New(rand.NewSource(12))
	for range 500 {
		c := someCatalog(r)
		s, e := lamp.Print(c)
		if e != api.OK {
			t.Fatalf("Print of %v: %d", c, e)
		}
		if d, line, e := lamp.Parse(s); !reflect.DeepEqual(d, c) || line != 0 || e != api.OK {
			t.Fatalf("Parse of %q = %v, %d, %d", s, d, line, e)
		}
	}
}

// P2.2: the error of Check.
func TestPrintErrors(t *testing.T) {
	for _, x := range tableChanges() {
		c := two()
		x.do(&c.Tables[1])
		if s, e := lamp.Print(c); s != "" || e != x.e {
			t.Errorf("Print with %s: %q, %d", x.name, s, e)
		}
	}
	for _, x := range lampChanges() {
		c := two()
		x.do(&c.Lamps[1])
		if s, e := lamp.Print(c); s != "" || e != x.e {
			t.Errorf("Print with %s: %q, %d", x.name, s, e)
		}
	}
}

func wantParse(t *testing.T, s string, line int, e api.Errno) {
	t.Helper()
	c, n, f := lamp.Parse(s)
	if len(c.Tables) != 0 || len(c.Lamps) != 0 || n != line || f != e {
		t.Errorf("Parse(%q) = %v, %d, %d, want %d, %d", s, c, n, f, line, e)
	}
}

// P2.2: the length comes first.
func TestParseTooLong(t *testing.T) {
	wantParse(t, strings.Repeat("x", api.MaxLmText+1), 0, api.ErrLong)
	wantParse(t, strings.Repeat("x", api.MaxLmText), 1, api.ErrForm)
	wantParse(t, strings.Repeat("\n", api.MaxLmText+1), 0, api.ErrLong)
	cut := (wide + strings.Repeat(head, 300))[:api.MaxLmText]
	wantParse(t, cut, 1+strings.Count(cut, "\n"), api.ErrForm)
	long := strings.Replace(wide, "wide", "w"+strings.Repeat("e", api.MaxLmText-len(wide)+3), 1)
	wantParse(t, long, 1, api.ErrForm)
	wantParse(t, long+"x", 0, api.ErrLong)
}

// P2.2: lines that are not as stated, in each position of wide (lines 1 to 8) and head (line 9).
func TestParseBadLines(t *testing.T) {
	lines := strings.SplitAfter(strings.TrimSuffix(wide+head, "\n"), "\n")
	lines[len(lines)-1] += "\n"
	bad := map[int][]string{
		1: {"", " ", "tables wide", "table", "table ", "table  wide", "table wide ", " table wide", "table wide 1", "Table wide", "us 1 2", "side 1", "x", "table\twide"},
		2: {"", "us ", "us -1000  0 2000", "us -1000 0 2000 ", "us -1000 0 x", "us -1000 0 +2000", "us -1000 00 2000", "us -1000 -0 2000", "us -1000 0 02000", "us -1000 0 1234567890", "us -1000 0 2000\r", "us 1..2 3", "vs 1 2", "Us 1 2", "us1 2 3", "us - 0 2000", "us --1 0 2000", "us -1000 0 2e3", "us 0x1 1 2"},
		3: {"", "us -1000 1000", "row 1 2", "vs -1000 1000.0", "vs -1000,1000", "table narrow"},
		4: {"", "rows 100 300", "row 100 a", "row  100 300", "row 100 -", "side 50", "vs 1 2"},
		5: {"side 50", "row 200 600 "},
		6: {"side 50", "row 0 1 2 3 04", "\x00", "row 0 ٣"},
		7: {"", "side", "side 1 2", "side -", "side 00", "row 0 100", "sky 5", "side 50 ", "side 0123"},
		8: {"", "sky", "sky 5 5", "side 5", "lamp head", "sky x", "sky 1234567890"},
		9: {
			"", " ", "table", "us 1 2", "lamp", "lamps", strings.TrimSuffix(head, "\n") + " ", " " + strings.TrimSuffix(head, "\n"),
			strings.TrimSuffix(head, "\n") + " life 1", strings.TrimSuffix(head, " restrike 0\n"), strings.TrimSuffix(head, " 0\n"),
		},
	}
	for _, x := range [][2]string{
		{"lamp ", "lamb "}, {" wide ", " wise "}, {" wide ", " "}, {" wide ", "  "}, {" led ", " Led "}, {" led ", " 1 "}, {" led ", " halogen "}, {" led ", " "},
		{"lumens", "lumen"}, {"lumens 8000", "lumens 08000"}, {"lumens 8000", "lumens"}, {"8000", "8000000000"}, {"8000", "8e3"}, {"8000", ""}, {"8000 power", "8000  power"},
		{"power 60000 standing 500", "standing 500 power 60000"}, {"dim 200", "dim 2..3"}, {"2..4", "2"}, {"2..4", "2.4"}, {"2..4", "2...4"}, {"2..4", "..4"}, {"2..4", "2.."}, {"2..4", ".."},
		{"2..4", "2..4..5"}, {"2..4", "2 .. 4"}, {"2..4", "02..4"}, {"2..4", "2..04"}, {"2..4", "-0..4"}, {"2..4", "2..4.0"}, {"3..5", "3-5"}, {"3..5", "3..1234567890"}, {"restrike 0", "restrike x"}, {"restrike", "Restrike"},
	} {
		bad[9] = append(bad[9], strings.TrimSuffix(strings.Replace(head, x[0], x[1], 1), "\n"))
	}
	for at, list := range bad {
		for _, line := range list {
			changed := slices.Clone(lines)
			changed[at-1] = line + "\n"
			wantParse(t, strings.Join(changed, ""), at, api.ErrForm)
			wantParse(t, strings.Join(changed, "")+"another\nbad line", at, api.ErrForm)
		}
	}
}

// P2.2: the end of the text in each position: the number is that after the last complete line.
func TestParseBadEnds(t *testing.T) {
	text := wide + head + strings.Replace(wide+head, "wide", "other", 1)
	for n := 1; n < len(wide+head); n++ {
		s := text[:n]
		if complete := s == wide; !complete {
			wantParse(t, s, 1+strings.Count(s, "\n"), api.ErrForm)
		}
	}
	wantParse(t, wide+"\n", 9, api.ErrForm)
	wantParse(t, wide+head+"\n", 10, api.ErrForm)
	wantParse(t, wide+head+"x", 10, api.ErrForm)
	wantParse(t, wide+head+" ", 10, api.ErrForm)
	wantParse(t, text, 10, api.ErrForm) // no tables after lamps
	wantParse(t, "\n", 1, api.ErrForm)
	wantParse(t, "x", 1, api.ErrForm)
}

// P2.2: any number of numbers is a line as stated; there are as many rows as Us has numbers, and Check says what is wrong.
func TestParseAnyNumberOfNumbers(t *testing.T) {
	const end = "side 50\nsky 5\n"
	long := strings.Repeat(" 1", 14)
	wantParse(t, "table a\nus\nvs 1 2\n"+end, 1, api.ErrLong)
	wantParse(t, "table a\nus\nvs\n"+end, 1, api.ErrLong)
	wantParse(t, "table a\nus\nvs 1 2\nrow 1 2\n"+end, 4, api.ErrForm)
	wantParse(t, "table a\nus 1 2\nvs\nrow\nrow\n"+end, 1, api.ErrLong)
	wantParse(t, "table a\nus"+long+"\nvs 1 2\n"+strings.Repeat("row 1 2\n", 14)+end, 1, api.ErrLong)
	wantParse(t, "table a\nus"+long+"\nvs 1 2\n"+strings.Repeat("row 1 2\n", 13)+end, 17, api.ErrForm)
	wantParse(t, "table a\nus 1 2\nvs 1 2\nrow 1 2\nrow 1\n"+end, 1, api.ErrForm)
	wantParse(t, "table a\nus 1 2\nvs 1 2\nrow 1 2\nrow 1 2 3\n"+end, 1, api.ErrForm)
	wantParse(t, "table a\nus 1 2\nvs 1 2\nrow\nrow 1 2\n"+end, 1, api.ErrForm)
	wantParse(t, "table a\nus 1 2\nvs 1 2\nrow 1 2\nrow 1 2\nrow 1 2\n"+end, 6, api.ErrForm)
	wantParse(t, "table a\nus 1 1\nvs 1 2\nrow 1 2\nrow 1 2\n"+end, 1, api.ErrArg)
	wantParse(t, "table a\nus 1 999999999\nvs 1 2\nrow 1 2\nrow 1 2\n"+end, 1, api.ErrRange)
	wantParse(t, "table a\nus -999999999 1\nvs 1 2\nrow 1 2\nrow 1 2\n"+end, 1, api.ErrRange)
}

// P2.2: the error of Check, with the line where the table or the lamp begins.
func TestParseCheckErrors(t *testing.T) {
	bad := func(old, new string) string { return strings.Replace(head, old, new, 1) }
	other := strings.Replace(wide, "wide", "other", 1)
	for _, x := range []struct {
		s    string
		line int
		e    api.Errno
	}{
		{wide + strings.Replace(wide, "wide", "Wide", 1), 9, api.ErrForm},
		{strings.Replace(wide, "wide", "wide\r", 1), 1, api.ErrForm},
		{strings.Replace(wide, "wide", strings.Repeat("w", 25), 1), 1, api.ErrForm},
		{wide + wide, 9, api.ErrTwice},
		{wide + wide + head, 9, api.ErrTwice},
		{wide + other + wide + other, 17, api.ErrTwice},
		{wide + strings.Replace(other, "sky 5", "sky -5", 1), 9, api.ErrRange},
		{strings.Repeat(wide, 11), 0, api.ErrLong},
		{wide + strings.Repeat(head, 21), 0, api.ErrLong},
		{wide + other + bad("head", "HEAD"), 17, api.ErrForm},
		{wide + head + head, 10, api.ErrTwice},
		{wide + head + bad("head", "tail") + bad("head", "tail"), 11, api.ErrTwice},
		{wide + bad("lumens 8000", "lumens 0"), 9, api.ErrRange},
		{wide + bad("lumens 8000", "lumens -1"), 9, api.ErrRange},
		{wide + bad("2..4", "4..2"), 9, api.ErrRange},
		{wide + bad("2..4", "-1..2"), 9, api.ErrRange},
		{wide + bad("2..4", "999999999..-999999999"), 9, api.ErrRange},
		{wide + bad("standing 500", "standing 60001"), 9, api.ErrRange},
		{wide + bad("restrike 0", "restrike 1"), 9, api.ErrArg},
		{wide + head + bad("head", "tail") + bad("head", "last lamp"), 11, api.ErrForm},
		{wide + bad("head", "HEAD") + "x\n", 10, api.ErrForm}, // the form of all lines comes before Check
	} {
		wantParse(t, x.s, x.line, x.e)
	}
}
