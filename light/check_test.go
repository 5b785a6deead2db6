package light_test

import (
	"math"
	"testing"

	"linkboy/api"
	"linkboy/light"
)

func wantCheck(t *testing.T, what string, s api.LtScene, part, at int, e api.Errno) {
	t.Helper()
	if p, a, f := light.Check(s); p != part || a != at || f != e {
		t.Errorf("%s: Check = %d, %d, %d, want %d, %d, %d", what, p, a, f, part, at, e)
	}
}

type change struct {
	name     string
	part, at int
	e        api.Errno
	do       func(s *api.LtScene)
}

// changes are the errors of the scene street, in the order in which they are named.
func changes() []change {
	return []change{
		{"tables", 1, 0, api.ErrLong, func(s *api.LtScene) { s.Catalog.Tables = make([]api.LmTable, 11) }},
		{"second table", 1, 0, api.ErrForm, func(s *api.LtScene) { s.Catalog.Tables[1].Name = "A" }},
		{"lamp", 1, 0, api.ErrNone, func(s *api.LtScene) { s.Catalog.Lamps[0].Table = 2 }},
		{"columns", 2, 0, api.ErrLong, func(s *api.LtScene) { s.Road.Columns = make([]api.RdColumn, 25) }},
		{"width", 2, 0, api.ErrRange, func(s *api.LtScene) { s.Road.Roads[0].Width = 99 }},
		{"heading", 2, 0, api.ErrArg, func(s *api.LtScene) { s.Road.Columns[1].DX, s.Road.Columns[1].DY = 0, 0 }},
		{"surface below", 3, 0, api.ErrNone, func(s *api.LtScene) { s.Surface = -2 }},
		{"surface above", 3, 0, api.ErrNone, func(s *api.LtScene) { s.Surface = 2 }},
		{"surface far below", 3, 0, api.ErrNone, func(s *api.LtScene) { s.Surface = math.MinInt }},
		{"surface far above", 3, 0, api.ErrNone, func(s *api.LtScene) { s.Surface = math.MaxInt }},
		{"bright surface", 3, 0, api.ErrRange, func(s *api.LtScene) { s.Catalog.Tables[1].Values[1][0] = api.MaxReflect + 1 }},
		{"bright side of the surface", 3, 0, api.ErrRange, func(s *api.LtScene) { s.Catalog.Tables[1].Side = api.MaxReflect + 1 }},
		{"few lamps", 4, 0, api.ErrArg, func(s *api.LtScene) { s.Lamps = s.Lamps[:1] }},
		{"no lamps", 4, 0, api.ErrArg, func(s *api.LtScene) { s.Lamps = nil }},
		{"many lamps", 4, 0, api.ErrArg, func(s *api.LtScene) { s.Lamps = []int{0, 0, 0} }},
		{"few uses", 4, 0, api.ErrArg, func(s *api.LtScene) { s.Uses = s.Uses[:1] }},
		{"many uses", 4, 0, api.ErrArg, func(s *api.LtScene) { s.Uses = make([]api.LmUse, 3) }},
		{"lamp below", 4, 1, api.ErrNone, func(s *api.LtScene) { s.Lamps[1] = -2 }},
		{"lamp above", 4, 1, api.ErrNone, func(s *api.LtScene) { s.Lamps[1] = 1 }},
		{"lamp far below", 4, 1, api.ErrNone, func(s *api.LtScene) { s.Lamps[1] = math.MinInt }},
		{"lamp far above", 4, 1, api.ErrNone, func(s *api.LtScene) { s.Lamps[1] = math.MaxInt }},
		{"hours below", 4, 1, api.ErrRange, func(s *api.LtScene) { s.Uses[1].Hours = -1 }},
		{"hours above", 4, 1, api.ErrRange, func(s *api.LtScene) { s.Uses[1].Hours = api.MaxHours + 1 }},
		{"months below", 4, 1, api.ErrRange, func(s *api.LtScene) { s.Uses[1].Months = -1 }},
		{"months above", 4, 1, api.ErrRange, func(s *api.LtScene) { s.Uses[1].Months = api.MaxMonths + 1 }},
		{"level below", 4, 1, api.ErrRange, func(s *api.LtScene) { s.Uses[1].Level = -1 }},
		{"level above", 4, 1, api.ErrRange, func(s *api.LtScene) { s.Uses[1].Level = 1001 }},
		{"hours far above", 4, 1, api.ErrRange, func(s *api.LtScene) { s.Uses[1].Hours = math.MaxInt }},
		{"months without a lamp", 4, 1, api.ErrRange, func(s *api.LtScene) { s.Lamps[1], s.Uses[1].Months = -1, math.MinInt }},
	}
}

// P4.1
func TestCheckErrors(t *testing.T) {
	wantCheck(t, "street", street(), 0, 0, api.OK)
	for _, c := range changes() {
		s := street()
		c.do(&s)
		wantCheck(t, c.name, s, c.part, c.at, c.e)
	}
}

// P4.1, R1: of two errors the one that is named first.
func TestCheckOrder(t *testing.T) {
	list := changes()
	for i, first := range list {
		for _, later := range list[i+1:] {
			if first.e == later.e && first.part == later.part || later.name == "months without a lamp" && first.at == 1 {
				continue
			}
			s := street()
			later.do(&s)
			wildly(func() { first.do(&s) })
			wantCheck(t, first.name+" and "+later.name, s, first.part, first.at, first.e)
		}
	}
}

// wildly does what may panic, because a change is not possible in a scene that is changed already.
func wildly(do func()) {
	defer func() { _ = recover() }()
	do()
}

// P4.1: the first column with an error decides, and of its errors the one that is named first.
func TestCheckFirstColumn(t *testing.T) {
	s := street()
	s.Uses[0].Level, s.Lamps[1] = 1001, 7
	wantCheck(t, "use and lamp", s, 4, 0, api.ErrRange)
	s = street()
	s.Lamps[0], s.Uses[1].Hours = 7, -1
	wantCheck(t, "lamp and use", s, 4, 0, api.ErrNone)
	s.Uses[0].Level = -1
	wantCheck(t, "lamp and use of one", s, 4, 0, api.ErrNone)
}

// P4.1: lamps that are as bright as they may be, and brighter ones, which may be in the catalogue alone.
func TestCheckBeams(t *testing.T) {
	parts := map[string]func(t *api.LmTable) *int{
		"value": func(t *api.LmTable) *int { return &t.Values[2][1] },
		"side":  func(t *api.LmTable) *int { return &t.Side },
		"sky":   func(t *api.LmTable) *int { return &t.Sky },
	}
	for name, part := range parts {
		s := street()
		s.Catalog.Lamps = append(s.Catalog.Lamps, s.Catalog.Lamps[0])
		s.Catalog.Lamps[1].Name = "other"
		s.Lamps[1] = 1
		*part(&s.Catalog.Tables[0]), s.Catalog.Lamps[1].Lumens = 100000, 1000000
		wantCheck(t, name+" at the limit", s, 0, 0, api.OK)
		*part(&s.Catalog.Tables[0]) = 100001
		wantCheck(t, name+" above the limit", s, 4, 1, api.ErrRange)
		s.Lamps[1] = 0
		wantCheck(t, name+" of no lamp", s, 0, 0, api.OK)
		*part(&s.Catalog.Tables[0]), s.Catalog.Lamps[0].Lumens = api.MaxIntensity, 10001
		wantCheck(t, name+" of all lamps", s, 4, 0, api.ErrRange)
		s.Lamps[0] = -1
		wantCheck(t, name+" of the second column", s, 4, 1, api.ErrRange)
		s.Catalog.Lamps[0].Lumens = 10000
		wantCheck(t, name+" as great as it may be", s, 0, 0, api.OK)
	}
	s := street() // the table of another lamp may be as bright as any
	s.Catalog.Lamps[0].Lumens = api.MaxLumens
	wantCheck(t, "most lumens", s, 0, 0, api.OK)
}

// P4.1
func TestCheckOK(t *testing.T) {
	for what, do := range map[string]func(s *api.LtScene){
		"nothing":              func(s *api.LtScene) { *s = api.LtScene{Surface: -1} },
		"empty lists":          func(s *api.LtScene) { *s = api.LtScene{Surface: -1, Lamps: []int{}, Uses: []api.LmUse{}} },
		"no surface":           func(s *api.LtScene) { s.Surface = -1 },
		"a lamp's surface":     func(s *api.LtScene) { s.Surface = 0 },
		"no lamp":              func(s *api.LtScene) { s.Lamps = []int{-1, -1} },
		"greatest use":         func(s *api.LtScene) { s.Uses[1] = api.LmUse{Hours: api.MaxHours, Months: api.MaxMonths, Level: 1000} },
		"least use":            func(s *api.LtScene) { s.Uses[1] = api.LmUse{} },
		"greatest reflectance": func(s *api.LtScene) { s.Catalog.Tables[1].Values[0][1], s.Catalog.Tables[1].Side = 10000, 10000 },
		"sky of the surface":   func(s *api.LtScene) { s.Catalog.Tables[1].Sky = api.MaxIntensity },
		"no surface but bright tables": func(s *api.LtScene) {
			s.Surface = -1
			s.Catalog.Tables[1].Values[0][0], s.Catalog.Tables[1].Side = api.MaxIntensity, api.MaxIntensity
		},
	} {
		s := street()
		do(&s)
		wantCheck(t, what, s, 0, 0, api.OK)
	}
	// Without a surface the index 0 is none, if there are no tables.
	wantCheck(t, "no tables", api.LtScene{}, 3, 0, api.ErrNone)
}
