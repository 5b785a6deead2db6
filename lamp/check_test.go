package lamp_test

import (
	"math"
	"math/rand"
	"strconv"
	"strings"
	"testing"

	"linkboy/api"
	"linkboy/lamp"
)

// P2.1
func TestName(t *testing.T) {
	for s, want := range map[string]bool{
		"a": true, "z": true, "lamp": true, "a-": true, "a--b": true, "a0": true, "z9-z": true,
		strings.Repeat("a", 24): true, strings.Repeat("a", 25): false, strings.Repeat("a", 1000000): false,
		"": false, "0": false, "-": false, "-a": false, "9a": false, "A": false, "aB": false, "a b": false, "a_b": false, "a.b": false,
		"a ": false, " a": false, "a\n": false, "a\x00": false, "é": false, "aé": false, "a`": false, "a{": false, "`": false, "{": false,
		"a/": false, "a:": false, "a,": false, "\xff": false,
	} {
		if got := lamp.Name(s); got != want {
			t.Errorf("Name(%q) = %v", s, got)
		}
	}
}

// P2.1
func TestCheckOK(t *testing.T) {
	r := rand.New(rand.NewSource(1))
	for _, c := range []api.LmCatalog{{}, example(), {Tables: example().Tables}, {Tables: []api.LmTable{}, Lamps: []api.LmLamp{}}, most()} {
		checked(t, c)
	}
	for range 300 {
		checked(t, someCatalog(r))
	}
}

// most returns a catalogue in which all is as great as it may be.
func most() api.LmCatalog {
	var c api.LmCatalog
	for i := range api.MaxTables {
		table := api.LmTable{Name: strings.Repeat("t", 23) + strconv.Itoa(i), Side: api.MaxIntensity, Sky: api.MaxIntensity}
		for k := range api.MaxGrid {
			table.Us = append(table.Us, k-api.MaxTan)
			table.Vs = append(table.Vs, k+1+api.MaxTan-api.MaxGrid)
			row := make([]int, api.MaxGrid)
			for j := range row {
				row[j] = api.MaxIntensity
			}
			table.Values = append(table.Values, row)
		}
		c.Tables = append(c.Tables, table)
	}
	for i := range api.MaxLamps {
		c.Lamps = append(c.Lamps, api.LmLamp{
			Name: strings.Repeat("l", 22) + strconv.Itoa(i+10), Table: api.MaxTables - 1, Kind: api.LmSodium, Lumens: api.MaxLumens,
			Power: api.MaxPower, Standing: api.MaxPower, Tolerance: 1000, Ageing: encl(1000, 1000), Dirt: encl(1000, 1000),
			Life: api.MaxHours, Dim: 1000, Restrike: api.MaxRestrike,
		})
	}
	return c
}

type tableChange struct {
	name string
	e    api.Errno
	do   func(*api.LmTable)
}

// tableChanges are the errors of a table, in the order in which they are named; a table wide is before it.
func tableChanges() []tableChange {
	return []tableChange{
		{"name", api.ErrForm, func(t *api.LmTable) { t.Name = "Wide" }},
		{"twice", api.ErrTwice, func(t *api.LmTable) { t.Name = "wide" }},
		{"one of us", api.ErrLong, func(t *api.LmTable) { t.Us = t.Us[:1] }},
		{"no us", api.ErrLong, func(t *api.LmTable) { t.Us = nil }},
		{"many us", api.ErrLong, func(t *api.LmTable) { t.Us = []int{1, 2, 3, 4, 5, 6, 7, 8, 9, 10, 11, 12, 13} }},
		{"one of vs", api.ErrLong, func(t *api.LmTable) { t.Vs = t.Vs[:1] }},
		{"many vs", api.ErrLong, func(t *api.LmTable) { t.Vs = []int{1, 2, 3, 4, 5, 6, 7, 8, 9, 10, 11, 12, 13} }},
		{"low of us", api.ErrRange, func(t *api.LmTable) { t.Us[0] = -api.MaxTan - 1 }},
		{"low of vs", api.ErrRange, func(t *api.LmTable) { t.Vs[0] = math.MinInt }},
		{"high of us", api.ErrRange, func(t *api.LmTable) { t.Us[2] = api.MaxTan + 1 }},
		{"high of vs", api.ErrRange, func(t *api.LmTable) { t.Vs[1] = math.MaxInt }},
		{"us twice", api.ErrArg, func(t *api.LmTable) { t.Us[1] = t.Us[2] }},
		{"us down", api.ErrArg, func(t *api.LmTable) { t.Us[1] = -1001 }},
		{"vs twice", api.ErrArg, func(t *api.LmTable) { t.Vs[0] = t.Vs[1] }},
		{"vs down", api.ErrArg, func(t *api.LmTable) { t.Vs[0], t.Vs[1] = t.Vs[1], t.Vs[0] }},
		{"few rows", api.ErrForm, func(t *api.LmTable) { t.Values = t.Values[:2] }},
		{"many rows", api.ErrForm, func(t *api.LmTable) { t.Values = append(t.Values, []int{1, 2}) }},
		{"no rows", api.ErrForm, func(t *api.LmTable) { t.Values = nil }},
		{"short row", api.ErrForm, func(t *api.LmTable) { t.Values[1] = t.Values[1][:1] }},
		{"long row", api.ErrForm, func(t *api.LmTable) { t.Values[1] = []int{1, 2, 3} }},
		{"low value", api.ErrRange, func(t *api.LmTable) { t.Values[0][0] = -1 }},
		{"high value", api.ErrRange, func(t *api.LmTable) { t.Values[0][1] = api.MaxIntensity + 1 }},
		{"low side", api.ErrRange, func(t *api.LmTable) { t.Side = -1 }},
		{"high side", api.ErrRange, func(t *api.LmTable) { t.Side = api.MaxIntensity + 1 }},
		{"low sky", api.ErrRange, func(t *api.LmTable) { t.Sky = math.MinInt }},
		{"high sky", api.ErrRange, func(t *api.LmTable) { t.Sky = api.MaxIntensity + 1 }},
	}
}

type lampChange struct {
	name string
	e    api.Errno
	do   func(*api.LmLamp)
}

// lampChanges are the errors of a lamp, in the order in which they are named; a lamp head is before it.
func lampChanges() []lampChange {
	return []lampChange{
		{"name", api.ErrForm, func(l *api.LmLamp) { l.Name = "" }},
		{"twice", api.ErrTwice, func(l *api.LmLamp) { l.Name = "head" }},
		{"table below", api.ErrNone, func(l *api.LmLamp) { l.Table = -1 }},
		{"table above", api.ErrNone, func(l *api.LmLamp) { l.Table = 2 }},
		{"kind below", api.ErrArg, func(l *api.LmLamp) { l.Kind = 0 }},
		{"kind above", api.ErrArg, func(l *api.LmLamp) { l.Kind = 4 }},
		{"lumens below", api.ErrRange, func(l *api.LmLamp) { l.Lumens = 0 }},
		{"lumens above", api.ErrRange, func(l *api.LmLamp) { l.Lumens = api.MaxLumens + 1 }},
		{"power below", api.ErrRange, func(l *api.LmLamp) { l.Power, l.Standing = 0, 0 }},
		{"power above", api.ErrRange, func(l *api.LmLamp) { l.Power = api.MaxPower + 1 }},
		{"standing below", api.ErrRange, func(l *api.LmLamp) { l.Standing = -1 }},
		{"standing above", api.ErrRange, func(l *api.LmLamp) { l.Standing = l.Power + 1 }},
		{"tolerance below", api.ErrRange, func(l *api.LmLamp) { l.Tolerance = -1 }},
		{"tolerance above", api.ErrRange, func(l *api.LmLamp) { l.Tolerance = 1001 }},
		{"ageing below", api.ErrRange, func(l *api.LmLamp) { l.Ageing.Lo = -1 }},
		{"ageing above", api.ErrRange, func(l *api.LmLamp) { l.Ageing.Hi = 1001 }},
		{"ageing turned", api.ErrRange, func(l *api.LmLamp) { l.Ageing = encl(5, 4) }},
		{"dirt below", api.ErrRange, func(l *api.LmLamp) { l.Dirt.Lo = math.MinInt }},
		{"dirt above", api.ErrRange, func(l *api.LmLamp) { l.Dirt.Hi = math.MaxInt }},
		{"dirt turned", api.ErrRange, func(l *api.LmLamp) { l.Dirt = encl(1000, 0) }},
		{"life below", api.ErrRange, func(l *api.LmLamp) { l.Life = 0 }},
		{"life above", api.ErrRange, func(l *api.LmLamp) { l.Life = api.MaxHours + 1 }},
		{"dim below", api.ErrRange, func(l *api.LmLamp) { l.Dim = -1 }},
		{"dim above", api.ErrRange, func(l *api.LmLamp) { l.Dim = 1001 }},
		{"restrike below", api.ErrRange, func(l *api.LmLamp) { l.Restrike = -1 }},
		{"restrike above", api.ErrRange, func(l *api.LmLamp) { l.Restrike = api.MaxRestrike + 1 }},
		{"led with a restrike", api.ErrArg, func(l *api.LmLamp) { l.Kind, l.Restrike = api.LmLed, 1 }},
	}
}

// two returns a catalogue with two tables and two lamps.
func two() api.LmCatalog {
	return api.LmCatalog{
		Tables: []api.LmTable{exampleTable("wide"), exampleTable("other")},
		Lamps:  []api.LmLamp{exampleLamp("head"), exampleLamp("tail")},
	}
}

func wantCheck(t *testing.T, what string, c api.LmCatalog, part, at int, e api.Errno) {
	t.Helper()
	if p, a, f := lamp.Check(c); p != part || a != at || f != e {
		t.Errorf("%s: Check = %d, %d, %d, want %d, %d, %d", what, p, a, f, part, at, e)
	}
}

// P2.1: each error alone.
func TestCheckErrors(t *testing.T) {
	for _, x := range tableChanges() {
		c := two()
		x.do(&c.Tables[1])
		wantCheck(t, x.name, c, 1, 1, x.e)
	}
	for _, x := range lampChanges() {
		c := two()
		x.do(&c.Lamps[1])
		wantCheck(t, x.name, c, 2, 1, x.e)
	}
}

// P2.1, R1: of two errors of an element the one that is named first. It comes into the element last, so that the other
// one does not undo it.
func TestCheckOrderOfErrors(t *testing.T) {
	for i, x := range tableChanges() {
		for _, y := range tableChanges()[i+1:] {
			if x.e != y.e {
				c := two()
				y.do(&c.Tables[1])
				x.do(&c.Tables[1])
				wantCheck(t, x.name+", "+y.name, c, 1, 1, x.e)
			}
		}
	}
	for i, x := range lampChanges() {
		for _, y := range lampChanges()[i+1:] {
			if x.e != y.e {
				c := two()
				y.do(&c.Lamps[1])
				x.do(&c.Lamps[1])
				wantCheck(t, x.name+", "+y.name, c, 2, 1, x.e)
			}
		}
	}
}

// P2.1, R1: the first element with an error, and parts in their order.
func TestCheckFirstElement(t *testing.T) {
	c := two()
	c.Tables[0].Sky, c.Tables[1].Name = -1, "?"
	c.Lamps[0].Name = "?"
	wantCheck(t, "tables", c, 1, 0, api.ErrRange)
	c.Tables[0].Sky = 0
	wantCheck(t, "tables", c, 1, 1, api.ErrForm)
	c.Tables[1].Name = "other"
	c.Lamps[0] = exampleLamp("head")
	c.Lamps[0].Restrike, c.Lamps[1].Name = 1, "head"
	wantCheck(t, "lamps", c, 2, 0, api.ErrArg)
	c.Lamps[0].Restrike = 0
	wantCheck(t, "lamps", c, 2, 1, api.ErrTwice)
	c.Lamps[1].Name = "wide"
	wantCheck(t, "a lamp with the name of a table", c, 0, 0, api.OK)
	wantCheck(t, "lamps without tables", api.LmCatalog{Lamps: c.Lamps}, 2, 0, api.ErrNone)
}

// P2.1: more than the limits, before all else.
func TestCheckTooMany(t *testing.T) {
	c := most()
	wantCheck(t, "most", c, 0, 0, api.OK)
	c.Tables[0].Name = "?"
	c.Lamps = append(c.Lamps, exampleLamp("head"))
	wantCheck(t, "lamps", c, 0, 0, api.ErrLong)
	c = most()
	c.Tables = append(c.Tables, api.LmTable{})
	wantCheck(t, "tables", c, 0, 0, api.ErrLong)
	wantCheck(t, "bad tables", api.LmCatalog{Tables: make([]api.LmTable, 100000)}, 0, 0, api.ErrLong)
}
