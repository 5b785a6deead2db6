package feed_test

import (
	"fmt"
	"math/rand"
	"slices"
	"testing"

	"linkboy/api"
	"linkboy/feed"
)

func encl(lo, hi int) api.Encl { return api.Encl{Lo: lo, Hi: hi} }

type loads = [api.FePhases]api.Encl

func point(current, lo, hi int) api.FePoint { return api.FePoint{Current: current, Melt: encl(lo, hi)} }

func source() api.FeNode { return api.FeNode{Name: "source", Parent: -1, Cable: -1, Fuse: -1} }

// example returns the feeder F of the chapter's examples.
func example() api.FeFeeder {
	return api.FeFeeder{
		Cables: []api.FeCable{{Name: "copper", Core: encl(1000, 1200), Earth: encl(1000, 1200), Rated: 60000}},
		Fuses: []api.FeFuse{
			{Name: "ten", Rated: 10000, Points: []api.FePoint{point(30000, 100, 400), point(100000, 4, 8)}},
			{Name: "forty", Rated: 40000, Points: []api.FePoint{point(100000, 500, 3000), point(400000, 10, 20)}},
		},
		Nodes: []api.FeNode{
			source(),
			{Name: "a", Parent: 0, Length: 100, Fuse: 1},
			{Name: "b", Parent: 1, Length: 200, Fuse: 0, Loads: loads{encl(2000, 3000)}},
			{Name: "c", Parent: 2, Length: 100, Fuse: -1, Loads: loads{1: encl(1000, 1500)}},
		},
		Volts: encl(220000, 240000), Source: encl(50000, 100000), Drop: 7000, Limit: 400,
	}
}

// town returns a feeder with two branches, of which the second one begins before the first one ends; only the source has no
// protection, and nothing is wrong.
func town() api.FeFeeder {
	f := example()
	f.Cables = append(f.Cables, api.FeCable{Name: "steel", Core: encl(2000, 2500), Earth: encl(5000, 7000), Rated: 9000})
	f.Fuses = append(f.Fuses, api.FeFuse{Name: "six", Rated: 6000, Points: []api.FePoint{point(12000, 50, 90), point(20000, 20, 60), point(60000, 1, 3)}})
	f.Nodes = append(f.Nodes,
		api.FeNode{Name: "d", Parent: 1, Cable: 1, Length: 50, Fuse: 2, Loads: loads{encl(100, 200), encl(0, 300), encl(400, 400)}},
		api.FeNode{Name: "e", Parent: 3, Length: 10, Fuse: -1, Loads: loads{2: encl(500, 700)}},
		api.FeNode{Name: "f", Parent: 4, Cable: 1, Length: 20, Fuse: -1, Loads: loads{encl(10, 20), encl(30, 40), encl(0, 50)}},
		api.FeNode{Name: "g", Parent: 0, Length: 30, Fuse: 0, Loads: loads{encl(1000, 2000), encl(1000, 2000), encl(1000, 2000)}},
	)
	return f
}

// cloned returns a feeder that shares no memory with another one.
func cloned(f api.FeFeeder) api.FeFeeder {
	f.Cables, f.Fuses, f.Nodes = slices.Clone(f.Cables), slices.Clone(f.Fuses), slices.Clone(f.Nodes)
	for i := range f.Fuses {
		f.Fuses[i].Points = slices.Clone(f.Fuses[i].Points)
	}
	return f
}

// changed returns a feeder after a change, and leaves the given one as it is.
func changed(f api.FeFeeder, change func(f *api.FeFeeder)) api.FeFeeder {
	f = cloned(f)
	change(&f)
	return f
}

func text(x any) string { return fmt.Sprintf("%+v", x) }

// wide returns an enclosure in a range.
func wide(r *rand.Rand, least, most int) api.Encl {
	a, b := least+r.Intn(most-least+1), least+r.Intn(most-least+1)
	return encl(min(a, b), max(a, b))
}

// someFuse returns a fuse with points up to a current.
func someFuse(r *rand.Rand, name string, most int) api.FeFuse {
	f := api.FeFuse{Name: name, Rated: 1 + r.Intn(most)}
	lo, hi, current := 500+r.Intn(500), 1000+r.Intn(1000), 0
	for range 1 + r.Intn(api.MaxPoints) {
		current += 1 + r.Intn(most/4)
		f.Points = append(f.Points, point(current, lo, hi))
		lo, hi = 1+r.Intn(lo), 1+r.Intn(hi)
		if lo > hi {
			lo = hi
		}
	}
	return f
}

// someFeeder returns a feeder with some nodes, in which a fault has some amperes, at most.
func someFeeder(r *rand.Rand) api.FeFeeder {
	f := api.FeFeeder{Volts: wide(r, 2000, 4000), Source: wide(r, 500000, 1000000), Drop: 1 + r.Intn(100), Limit: 1 + r.Intn(1200)}
	for i := range 1 + r.Intn(3) {
		f.Cables = append(f.Cables, api.FeCable{Name: fmt.Sprint("c", i), Core: wide(r, 1, 3000), Earth: wide(r, 1, 6000), Rated: 1 + r.Intn(2000)})
	}
	for i := range 1 + r.Intn(3) {
		f.Fuses = append(f.Fuses, someFuse(r, fmt.Sprint("f", i), 4000))
	}
	f.Nodes = []api.FeNode{source()}
	for i := 1; i <= r.Intn(10); i++ {
		n := api.FeNode{Name: fmt.Sprint("n", i), Parent: r.Intn(i), Cable: r.Intn(len(f.Cables)), Length: 1 + r.Intn(40), Fuse: r.Intn(len(f.Fuses)+1) - 1}
		if r.Intn(2) == 0 {
			n.Parent = i - 1
		}
		for phase := range n.Loads {
			if r.Intn(3) > 0 {
				n.Loads[phase] = wide(r, 0, 300)
			}
		}
		f.Nodes = append(f.Nodes, n)
	}
	return f
}

// hugeFeeder returns a feeder whose numbers are anywhere in their ranges.
func hugeFeeder(r *rand.Rand) api.FeFeeder {
	f := api.FeFeeder{Volts: wide(r, 1, api.MaxVolts), Source: wide(r, 1, 1000000000), Drop: r.Intn(api.MaxVolts + 1), Limit: 1 + r.Intn(api.MaxMelt)}
	for i := range api.MaxCables {
		f.Cables = append(f.Cables, api.FeCable{Name: fmt.Sprint("c", i), Core: wide(r, 1, api.MaxCore), Earth: wide(r, 1, api.MaxCore), Rated: 1 + r.Intn(api.MaxCurrent)})
		if r.Intn(2) == 0 {
			f.Cables[i].Core, f.Cables[i].Earth = wide(r, 1, 3), wide(r, 1, 3)
		}
		f.Fuses = append(f.Fuses, someFuse(r, fmt.Sprint("f", i), 1<<r.Intn(24)+4))
	}
	f.Nodes = []api.FeNode{source()}
	for i := 1; i < api.MaxFeNodes; i++ {
		n := api.FeNode{Name: fmt.Sprint("n", i), Parent: max(0, i-1-r.Intn(3)), Cable: r.Intn(api.MaxCables), Length: 1 + r.Intn(api.MaxCable), Fuse: r.Intn(api.MaxFuses+1) - 1}
		for phase := range n.Loads {
			n.Loads[phase] = wide(r, 0, api.MaxLoad)
		}
		f.Nodes = append(f.Nodes, n)
	}
	return f
}

// someFeeders does something with feeders, of which all are valid.
func someFeeders(t *testing.T, seed int64, count int, do func(r *rand.Rand, f api.FeFeeder)) {
	t.Helper()
	r := rand.New(rand.NewSource(seed))
	for i := range count {
		f := someFeeder(r)
		if i%8 == 7 {
			f = hugeFeeder(r)
		}
		if part, at, e := feed.Check(f); e != api.OK {
			t.Fatalf("%+v: Check = %d, %d, %d", f, part, at, e)
		}
		do(r, f)
	}
}

// ok returns a result after which the test goes on only if there is no error.
func ok[T any](t *testing.T, x T, e api.Errno) T {
	t.Helper()
	if e != api.OK {
		t.Fatalf("error %d", e)
	}
	return x
}

func pathOf(t *testing.T, f api.FeFeeder, node int) []int {
	t.Helper()
	x, e := feed.Path(f, node)
	return ok(t, x, e)
}

func currents(t *testing.T, f api.FeFeeder, node int) loads {
	t.Helper()
	x, e := feed.Currents(f, node)
	return ok(t, x, e)
}

func neutral(t *testing.T, f api.FeFeeder, node int) int {
	t.Helper()
	x, e := feed.Neutral(f, node)
	return ok(t, x, e)
}

func drop(t *testing.T, f api.FeFeeder, node, phase int) int {
	t.Helper()
	x, e := feed.Drop(f, node, phase)
	return ok(t, x, e)
}

func fault(t *testing.T, f api.FeFeeder, node int, earth bool) api.Encl {
	t.Helper()
	x, e := feed.Fault(f, node, earth)
	return ok(t, x, e)
}

func own(t *testing.T, f api.FeFeeder, node int) int {
	t.Helper()
	x, e := feed.Own(f, node)
	return ok(t, x, e)
}

func first(t *testing.T, f api.FeFeeder, node, current int) int {
	t.Helper()
	x, e := feed.First(f, node, current)
	return ok(t, x, e)
}

func judge(t *testing.T, f api.FeFeeder) []api.FeFault {
	t.Helper()
	x, e := feed.Judge(f)
	return ok(t, x, e)
}

func dark(t *testing.T, f api.FeFeeder, open ...api.FeOpen) []api.FeOpen {
	t.Helper()
	x, e := feed.Dark(f, open)
	return ok(t, x, e)
}

// melted returns how long a fuse takes to open; zero, if it does not.
func melted(t *testing.T, f api.FeFeeder, fuse, current int) (api.Encl, bool) {
	t.Helper()
	x, opens, e := feed.Melt(f, fuse, current)
	return ok(t, x, e), opens
}
