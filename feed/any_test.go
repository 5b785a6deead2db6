package feed_test

import (
	"math"
	"math/rand"
	"reflect"
	"testing"

	"linkboy/api"
	"linkboy/feed"
)

// results returns for all functions but Check whether their results are zero, and their errors.
func results(f api.FeFeeder, node, number int, open []api.FeOpen) (zeros []bool, errors []api.Errno) {
	take := func(result any, e api.Errno) {
		zeros, errors = append(zeros, reflect.ValueOf(result).IsZero()), append(errors, e)
	}
	path, e := feed.Path(f, node)
	take(path, e)
	x, e := feed.Currents(f, node)
	take(x, e)
	n, e := feed.Neutral(f, node)
	take(n, e)
	n, e = feed.Drop(f, node, number)
	take(n, e)
	current, e := feed.Fault(f, node, false)
	take(current, e)
	current, e = feed.Fault(f, node, true)
	take(current, e)
	melt, opens, e := feed.Melt(f, node, number)
	take(melt, e)
	take(opens, e)
	n, e = feed.Own(f, node)
	take(n, e)
	n, e = feed.First(f, node, number)
	take(n, e)
	faults, e := feed.Judge(f)
	take(faults, e)
	dark, e := feed.Dark(f, open)
	take(dark, e)
	return zeros, errors
}

var ends = []int{math.MinInt, math.MinInt + 1, -1 << 32, -2, -1, 0, 1, 2, 3, 40, 1000, 100000000, 1 << 32, math.MaxInt - 1, math.MaxInt}

// spoil sets a number, or a list, of a feeder to any one.
func spoil(r *rand.Rand, f *api.FeFeeder) {
	end := func() int { return ends[r.Intn(len(ends))] }
	pick := func(n int) int { return r.Intn(max(n, 1)) }
	cable, fuse, node := pick(len(f.Cables)), pick(len(f.Fuses)), pick(len(f.Nodes))
	list := []func(){
		func() { f.Volts.Lo = end() }, func() { f.Volts.Hi = end() }, func() { f.Source.Lo = end() }, func() { f.Source.Hi = end() },
		func() { f.Drop = end() }, func() { f.Limit = end() },
		func() { f.Cables[cable].Core.Lo = end() }, func() { f.Cables[cable].Earth.Hi = end() }, func() { f.Cables[cable].Rated = end() },
		func() { f.Fuses[fuse].Rated = end() }, func() { f.Fuses[fuse].Points[0].Current = end() }, func() { f.Fuses[fuse].Points[0].Melt.Hi = end() },
		func() { f.Fuses[fuse].Points = nil }, func() { f.Cables[cable].Name = "?" }, func() { f.Fuses[fuse].Name = "f0" },
		func() { f.Nodes[node].Name = "source" }, func() { f.Nodes[node].Parent = end() }, func() { f.Nodes[node].Cable = end() },
		func() { f.Nodes[node].Fuse = end() }, func() { f.Nodes[node].Length = end() }, func() { f.Nodes[node].Loads[2].Hi = end() },
		func() { f.Nodes[node].Loads[0].Lo = end() }, func() { f.Nodes = nil }, func() { f.Cables, f.Fuses = nil, nil },
		func() { f.Nodes = make([]api.FeNode, 50) }, func() { f.Nodes = f.Nodes[1:] },
	}
	wildly(list[r.Intn(len(list))])
}

// P6.12, P1, R2: no arguments panic, or are changed; with an error the other results are zero.
func TestAnyArguments(t *testing.T) {
	r := rand.New(rand.NewSource(612))
	end := func() int { return ends[r.Intn(len(ends))] }
	valid := 0
	for range 6000 {
		f := someFeeder(r)
		if r.Intn(8) == 0 {
			f = hugeFeeder(r)
		}
		for range r.Intn(4) {
			spoil(r, &f)
		}
		open := make([]api.FeOpen, []int{0, 1, 2, 120, 121}[r.Intn(5)])
		for i := range open {
			open[i] = api.FeOpen{Node: r.Intn(2), Phase: r.Intn(3)}
		}
		if len(open) > 0 && r.Intn(2) == 0 {
			open[r.Intn(len(open))] = api.FeOpen{Node: end(), Phase: end()}
		}
		before := text(f) + text(open)
		zeros, errors := results(f, end(), end(), open)
		for i, zero := range zeros {
			if errors[i] != api.OK && !zero {
				t.Fatalf("%+v, %v: function %d returns a result with %d", f, open, i, errors[i])
			}
		}
		part, at, e := feed.Check(f)
		if e == api.OK && (part != 0 || at != 0) {
			t.Fatalf("%+v: Check = %d, %d, OK", f, part, at)
		}
		if e == api.OK {
			valid++
		}
		if text(f)+text(open) != before {
			t.Fatalf("%s has become %s%s", before, text(f), text(open))
		}
	}
	if valid < 1500 || valid > 4500 {
		t.Errorf("%d of 6000 are valid", valid)
	}
}

// P6.12, R4: results are new memory; what is done to them changes neither arguments nor other results.
func TestResultsAreNew(t *testing.T) {
	f := town()
	f.Limit = 7
	open := []api.FeOpen{{Node: 2, Phase: 1}, {Node: 2, Phase: 1}, {Node: 1, Phase: 0}}
	before := text(f) + text(open)
	path, faults, off := pathOf(t, f, 5), judge(t, f), dark(t, f, open...)
	kept := text(path) + text(faults) + text(off)
	clear(path[:cap(path)])
	clear(faults[:cap(faults)])
	clear(off[:cap(off)])
	if text(f)+text(open) != before {
		t.Errorf("%s has become %s%s", before, text(f), text(open))
	}
	if text(pathOf(t, f, 5))+text(judge(t, f))+text(dark(t, f, open...)) != kept {
		t.Errorf("other results")
	}
}

// R3: empty lists are as good as none.
func TestEmptyLists(t *testing.T) {
	f := api.FeFeeder{Nodes: []api.FeNode{source()}, Volts: encl(1, 1), Source: encl(1, 1), Limit: 1}
	zeros, errors := results(f, 0, 0, nil)
	f.Cables, f.Fuses = []api.FeCable{}, []api.FeFuse{}
	others, sameErrors := results(f, 0, 0, []api.FeOpen{})
	if text(zeros) != text(others) || text(errors) != text(sameErrors) {
		t.Errorf("%v %v, %v %v", zeros, errors, others, sameErrors)
	}
	if len(pathOf(t, f, 0))+len(judge(t, f))+len(dark(t, f)) != 0 || own(t, f, 0) != -1 || first(t, f, 0, 1) != -1 || drop(t, f, 0, 0) != 0 {
		t.Errorf("a source alone has something")
	}
}
