package lamp_test

import (
	"math"
	"math/rand"
	"reflect"
	"slices"
	"strings"
	"testing"

	"linkboy/api"
	"linkboy/lamp"
)

// results returns the results of all functions with a catalogue, but Check and Print, and their errors.
func results(c api.LmCatalog, at, n int, u api.LmUse, r api.LmRect) (list []any, errors []api.Errno) {
	take := func(result any, e api.Errno) { list, errors = append(list, result), append(errors, e) }
	i, e := lamp.Intensity(c, at, r.X0, r.Y0, n)
	take(i, e)
	o, e := lamp.Over(c, at, r, n)
	take(o, e)
	s, e := lamp.Share(c, at, n)
	take(s, e)
	f, e := lamp.Flux(c, at, u)
	take(f, e)
	p, e := lamp.Power(c, at, n)
	take(p, e)
	l, e := lamp.Level(c, at, n)
	take(l, e)
	w, e := lamp.Towards(c, at, u, r, n)
	take(w, e)
	return list, errors
}

// P2.3 to P2.7, R2: the error of Check comes first, and the other results are zero.
func TestErrorOfCheckFirst(t *testing.T) {
	check := func(what string, c api.LmCatalog, e api.Errno) {
		for _, bad := range []int{-1, 1} { // no index, no height, split or level, and then good ones
			list, errors := results(c, bad, bad, use(bad, 0, 0), rect(0, bad, 0, 0))
			for i := range list {
				if errors[i] != e || !reflect.ValueOf(list[i]).IsZero() {
					t.Errorf("%s: function %d returns %v, %d, want %d", what, i, list[i], errors[i], e)
				}
			}
		}
	}
	for _, x := range tableChanges() {
		c := two()
		x.do(&c.Tables[1])
		check(x.name, c, x.e)
	}
	for _, x := range lampChanges() {
		c := two()
		x.do(&c.Lamps[1])
		check(x.name, c, x.e)
	}
	check("lamps", api.LmCatalog{Tables: two().Tables, Lamps: make([]api.LmLamp, 21)}, api.ErrLong)
}

// copied returns a catalogue that shares no memory with c.
func copied(c api.LmCatalog) api.LmCatalog {
	d := api.LmCatalog{Tables: slices.Clone(c.Tables), Lamps: slices.Clone(c.Lamps)}
	for i, t := range d.Tables {
		d.Tables[i].Us, d.Tables[i].Vs, d.Tables[i].Values = slices.Clone(t.Us), slices.Clone(t.Vs), slices.Clone(t.Values)
		for k, row := range t.Values {
			d.Tables[i].Values[k] = slices.Clone(row)
		}
	}
	return d
}

// wildCatalog returns a catalogue with any mistakes in it.
func wildCatalog(r *rand.Rand) api.LmCatalog {
	c := two()
	if r.Intn(2) == 0 {
		c = someCatalog(r)
	}
	tables, lamps := tableChanges(), lampChanges()
	for range r.Intn(3) {
		wildly(func() { tables[r.Intn(len(tables))].do(&c.Tables[r.Intn(len(c.Tables))]) })
		wildly(func() { lamps[r.Intn(len(lamps))].do(&c.Lamps[r.Intn(len(c.Lamps))]) })
	}
	ends := []int{math.MinInt, math.MaxInt, -1, 0, 1 << 40}
	if r.Intn(4) == 0 {
		c.Lamps[0].Ageing = encl(ends[r.Intn(5)], ends[r.Intn(5)])
		c.Lamps[0].Table, c.Lamps[0].Kind = ends[r.Intn(5)], ends[r.Intn(5)]
	}
	return c
}

// wildly does what may panic, because a change is not possible in a table that is changed already.
func wildly(do func()) {
	defer func() { _ = recover() }()
	do()
}

// P2.13, P1: no arguments panic, or are changed.
func TestAnyArguments(t *testing.T) {
	r := rand.New(rand.NewSource(13))
	ends := []int{math.MinInt, math.MinInt + 1, -api.MaxOffset, -1, 0, 1, 2, 4, 1000, api.MaxLmHeight, api.MaxOffset, math.MaxInt - 1, math.MaxInt}
	end := func() int { return ends[r.Intn(len(ends))] }
	for range 5000 {
		c := wildCatalog(r)
		kept := copied(c)
		at := []int{0, 0, 1, end()}[r.Intn(4)]
		list, errors := results(c, at, end(), use(end(), end(), end()), rect(end(), end(), end(), end()))
		for i := range list {
			if errors[i] != api.OK && !reflect.ValueOf(list[i]).IsZero() {
				t.Fatalf("function %d returns %v with %d", i, list[i], errors[i])
			}
		}
		lamp.Check(c)
		if s, e := lamp.Print(c); e != api.OK && s != "" {
			t.Fatalf("Print = %q, %d", s, e)
		}
		if !reflect.DeepEqual(c, kept) {
			t.Fatalf("%v has become %v", kept, c)
		}
	}
}

// P2.13, P1: no text panics, and what Parse takes is what Print writes.
func TestAnyText(t *testing.T) {
	r := rand.New(rand.NewSource(14))
	pieces := []string{" ", "\n", "..", "0", "-", "1", "x", "\r", "\xff", "row 1 2\n", "us 1 2\n", "lamp", "table a\n", "side 5\n", head, wide, ""}
	for range 20000 {
		s := wide + head
		for range 1 + r.Intn(3) {
			a := r.Intn(len(s) + 1)
			b := a + r.Intn(min(len(s)-a, 12)+1)
			s = s[:a] + pieces[r.Intn(len(pieces))] + s[b:]
		}
		c, line, e := lamp.Parse(s)
		if e != api.OK {
			if len(c.Tables)+len(c.Lamps) != 0 || line < 0 || line > 1+strings.Count(s, "\n") {
				t.Fatalf("Parse(%q) = %v, %d, %d", s, c, line, e)
			}
			continue
		}
		if back, e := lamp.Print(c); back != s || line != 0 || e != api.OK {
			t.Fatalf("Print of Parse(%q) = %q, %d", s, back, e)
		}
	}
}

// P2.13, R3: nil and empty lists are the same.
func TestNilAndEmpty(t *testing.T) {
	c := api.LmCatalog{Tables: []api.LmTable{}, Lamps: []api.LmLamp{}}
	if s, e := lamp.Print(c); s != "" || e != api.OK {
		t.Errorf("Print = %q, %d", s, e)
	}
	for _, empty := range [][]int{nil, {}} {
		d := example()
		d.Tables[0].Us = empty
		wantCheck(t, "no us", d, 1, 0, api.ErrLong)
		d = example()
		d.Tables[0].Values[2] = empty
		wantCheck(t, "an empty row", d, 1, 0, api.ErrForm)
	}
}

// P2.13, R4: the lists of what Parse returns share no memory, with each other or with those of another call.
func TestParseReturnsNewMemory(t *testing.T) {
	text := wide + strings.Replace(wide, "wide", "other", 1) + head
	c, _, _ := lamp.Parse(text)
	d, _, _ := lamp.Parse(text)
	var lists [][]int
	for _, table := range c.Tables {
		lists = append(append(lists, table.Us, table.Vs), table.Values...)
	}
	for k, list := range lists {
		for n := range list[:cap(list)] { // also behind its end
			list[:cap(list)][n] = 1000 * k
		}
	}
	for k, list := range lists {
		for _, n := range list {
			if n != 1000*k {
				t.Errorf("list %d has become %v", k, list)
			}
		}
	}
	c.Tables[0].Name, c.Lamps[0].Name = "x", "x"
	if want := two(); !reflect.DeepEqual(d.Tables, want.Tables) || !reflect.DeepEqual(d.Lamps, want.Lamps[:1]) {
		t.Errorf("two calls share memory: %v", d)
	}
}
