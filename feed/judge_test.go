package feed_test

import (
	"slices"
	"testing"

	"linkboy/api"
)

func found(e api.Errno, node, other int) api.FeFault {
	return api.FeFault{Error: e, Node: node, Other: other}
}

func wantFaults(t *testing.T, what string, f api.FeFeeder, want ...api.FeFault) {
	t.Helper()
	if got := judge(t, f); !slices.Equal(got, want) {
		t.Errorf("%s: Judge = %v, want %v", what, got, want)
	}
}

// P6.5
func TestJudgeExamples(t *testing.T) {
	f := example()
	wantFaults(t, "example", f)
	f.Limit = 7
	wantFaults(t, "limit 7", f,
		found(api.FeErrSlow, 1, 1), found(api.FeErrSlow, 1, 1), found(api.FeErrSlow, 2, 2), found(api.FeErrSlow, 2, 2), found(api.FeErrSlow, 3, 2), found(api.FeErrSlow, 3, 2))
	wantFaults(t, "town", town())
	f = town()
	f.Nodes = f.Nodes[:1]
	wantFaults(t, "a source alone", f)
}

// P6.5: a cable, or a fuse, that carries more than it is rated for.
func TestJudgeLoad(t *testing.T) {
	f := town()
	f.Fuses[2].Rated = 450
	wantFaults(t, "as much as the fuse is rated for", f)
	f.Fuses[2].Rated = 449
	wantFaults(t, "more than the fuse is rated for", f, found(api.FeErrLoad, 4, 2))
	f.Fuses[2].Rated = 219
	wantFaults(t, "in all phases", f, found(api.FeErrLoad, 4, 0), found(api.FeErrLoad, 4, 1), found(api.FeErrLoad, 4, 2))
	f = town()
	f.Cables[1].Rated = 340
	wantFaults(t, "more than the cable is rated for", f, found(api.FeErrLoad, 4, 2))
	f.Cables[1].Rated = 50
	wantFaults(t, "as much as the cable without a fuse is rated for", f, found(api.FeErrLoad, 4, 0), found(api.FeErrLoad, 4, 1), found(api.FeErrLoad, 4, 2))
	f.Cables[1].Rated = 49
	f.Fuses[2].Rated = 1
	wantFaults(t, "the cable, and its fuse", f, found(api.FeErrLoad, 4, 0), found(api.FeErrLoad, 4, 1), found(api.FeErrLoad, 4, 2), found(api.FeErrLoad, 6, 2))
}

// P6.5
func TestJudgeDrop(t *testing.T) {
	f := example()
	f.Drop = 2213
	wantFaults(t, "as far as it may be", f)
	f.Drop = 2212
	wantFaults(t, "farther, by the neutral current alone", f, found(api.FeErrDrop, 3, 0))
	f.Drop = 2033
	wantFaults(t, "as far as it may be at one node", f, found(api.FeErrDrop, 3, 0))
	f.Drop = 2032
	wantFaults(t, "farther at both nodes", f, found(api.FeErrDrop, 2, 0), found(api.FeErrDrop, 3, 0))
	f.Drop = 1852
	wantFaults(t, "in two phases", f, found(api.FeErrDrop, 2, 0), found(api.FeErrDrop, 3, 0), found(api.FeErrDrop, 3, 1))
	f.Nodes[2].Loads[1].Hi = 62000
	list := judge(t, f)
	if len(list) < 2 || list[0] != found(api.FeErrLoad, 1, 1) || list[1] != found(api.FeErrDrop, 1, 0) {
		t.Errorf("loads before drops: %v", list)
	}
}

// P6.5: without protection, and without a protection that is one for others.
func TestJudgeBare(t *testing.T) {
	f := town()
	f.Limit = 1
	f.Nodes[1].Fuse, f.Nodes[7].Fuse = -1, -1
	var want []api.FeFault
	want = append(want, found(api.FeErrBare, 1, -1))
	for _, x := range [][2]int{{2, 2}, {3, 2}, {4, 4}, {5, 2}, {6, 4}} {
		want = append(want, found(api.FeErrSlow, x[0], x[1]), found(api.FeErrSlow, x[0], x[1]))
	}
	wantFaults(t, "two bare ones", f, append(want, found(api.FeErrBare, 7, -1))...)
	f.Cables[0].Rated, f.Drop = 1, 0
	list := judge(t, f)
	at := slices.Index(list, found(api.FeErrBare, 1, -1))
	if at < 0 || list[at-1] != found(api.FeErrDrop, 1, 2) || list[0] != found(api.FeErrLoad, 1, 0) {
		t.Errorf("loads and drops before: %v", list)
	}
}

// single returns a feeder with one node, and a fault there that has from 1000 to 2000 mA to the neutral, and from 500 to 1000
// mA to the earth.
func single(points ...api.FePoint) api.FeFeeder {
	return api.FeFeeder{
		Cables: []api.FeCable{{Name: "c", Core: encl(250, 500), Earth: encl(1250, 2500), Rated: api.MaxCurrent}},
		Fuses:  []api.FeFuse{{Name: "f", Rated: api.MaxCurrent, Points: points}},
		Nodes:  []api.FeNode{source(), {Name: "a", Length: 1000}},
		Volts:  encl(2000, 2000), Source: encl(500000, 1000000), Drop: api.MaxVolts, Limit: 100,
	}
}

// P6.5: a protection that opens too late, or not at all.
func TestJudgeSlow(t *testing.T) {
	f := single(point(400, 1, 100))
	if a, b := fault(t, f, 1, false), fault(t, f, 1, true); a != encl(1000, 2000) || b != encl(500, 1000) {
		t.Fatalf("faults %v, %v", a, b)
	}
	neutral, both := []api.FeFault{found(api.FeErrSlow, 1, 1)}, []api.FeFault{found(api.FeErrSlow, 1, 1), found(api.FeErrSlow, 1, 1)}
	for _, c := range []struct {
		name string
		want []api.FeFault
		f    api.FeFeeder
	}{
		{"just in time", nil, f},
		{"too late", both, single(point(400, 1, 101))},
		{"in time from the least current on", nil, single(point(400, 1, 101), point(500, 1, 100))},
		{"in time from above the least current to the earth on", neutral, single(point(400, 1, 101), point(501, 1, 100))},
		{"in time from the least current to the neutral on", neutral, single(point(400, 1, 101), point(1000, 1, 100))},
		{"in time from above both least currents on", both, single(point(400, 1, 101), point(1001, 1, 100))},
		{"opens from the least current on", nil, single(point(500, 1, 100))},
		{"opens from above the least current to the earth on", neutral, single(point(501, 1, 100))},
		{"opens from the least current to the neutral on", neutral, single(point(1000, 1, 100))},
		{"opens from above both least currents on", both, single(point(1001, 1, 100))},
		{"never opens", both, single(point(2001, 1, 100))},
	} {
		wantFaults(t, c.name, c.f, c.want...)
	}
}

// double returns a feeder with two nodes, and a fault at the second one that has from 1000 to 2000 mA to the neutral, and as
// much to the earth. Besides flow 300 mA of the second phase in the cable to the first node.
func double(first, second []api.FePoint) api.FeFeeder {
	f := single(second...)
	f.Fuses = append(f.Fuses, api.FeFuse{Name: "g", Rated: api.MaxCurrent, Points: first})
	f.Cables[0].Earth = f.Cables[0].Core
	f.Nodes[1].Length, f.Nodes[1].Fuse, f.Nodes[1].Loads = 500, 1, loads{encl(0, 100), encl(0, 300), encl(0, 200)}
	f.Nodes = append(f.Nodes, api.FeNode{Name: "b", Parent: 1, Length: 500})
	f.Limit = api.MaxMelt
	return f
}

// P6.5: another protection that may open before its own one.
func TestJudgeOther(t *testing.T) {
	points := func(list ...api.FePoint) []api.FePoint { return list }
	first := points(point(200, 50, 60))
	f := double(first, first)
	for _, earth := range []bool{false, true} {
		if a := fault(t, f, 2, earth); a != encl(1000, 2000) {
			t.Fatalf("fault %v", a)
		}
	}
	for _, c := range []struct {
		name          string
		hinders       bool
		first, second []api.FePoint
	}{
		{"just before", false, first, points(point(200, 1, 49))},
		{"may be at the same time", true, first, points(point(200, 1, 50))},
		{"later", true, first, points(point(200, 51, 70))},
		{"other one opens from the greatest current on", true, points(point(2300, 50, 60)), points(point(200, 51, 70))},
		{"other one opens from above the greatest current on", false, points(point(2301, 50, 60)), points(point(200, 51, 70))},
		{"other one is as fast from the greatest current on", true, points(point(200, 50, 60), point(2300, 40, 60)), points(point(200, 1, 49))},
		{"other one is as fast from above the greatest current on", false, points(point(200, 50, 60), point(2301, 40, 60)), points(point(200, 1, 49))},
		{"own one is faster from the least current on", false, first, points(point(200, 51, 70), point(1000, 1, 49))},
		{"own one is faster from above the least current on", true, first, points(point(200, 51, 70), point(1001, 1, 49))},
		{"other one opens before the own one is faster", true, points(point(1800, 50, 60)), points(point(200, 51, 70), point(1501, 1, 49))},
		{"other one opens when the own one is faster", false, points(point(1800, 50, 60)), points(point(200, 51, 70), point(1500, 1, 49))},
		{"other one is fast in the middle", true, points(point(200, 50, 60), point(1800, 40, 50)), points(point(200, 20, 45), point(1600, 20, 39))},
		{"own one is faster before the other one is", false, points(point(200, 50, 60), point(1800, 40, 50)), points(point(200, 20, 45), point(1500, 20, 39))},
	} {
		f := double(c.first, c.second)
		var want []api.FeFault
		if c.hinders {
			want = append(want, found(api.FeErrOther, 2, 1), found(api.FeErrOther, 2, 1))
		}
		if list := judge(t, f); !slices.Equal(slices.DeleteFunc(list, func(x api.FeFault) bool { return x.Error == api.FeErrSlow }), want) {
			t.Errorf("%s: Judge = %v", c.name, list)
		}
	}
}

// P6.5: an own protection that opens only at some of the currents, or at none.
func TestJudgeOtherLate(t *testing.T) {
	slow, other := found(api.FeErrSlow, 2, 2), found(api.FeErrOther, 2, 1)
	first := []api.FePoint{point(1, 50, 60)}
	wantFaults(t, "own one opens from the greatest current on", double(first, []api.FePoint{point(2000, 50, 50)}), slow, other, slow, other)
	wantFaults(t, "own one opens from there on in time", double(first, []api.FePoint{point(2000, 49, 49)}), slow, slow)
	wantFaults(t, "own one never opens", double(first, []api.FePoint{point(2001, 50, 50)}), slow, slow)
}

// P6.5: the order of other protections is that of the path, and each fault comes for the neutral and for the earth.
func TestJudgeSeveral(t *testing.T) {
	points := []api.FePoint{point(1, 50, 60)}
	f := double(points, points)
	f.Nodes = append(f.Nodes, api.FeNode{Name: "c", Parent: 2, Length: 1, Fuse: 0}, api.FeNode{Name: "d", Parent: 1, Length: 1, Fuse: -1})
	f.Limit = 59
	wantFaults(t, "three protections", f,
		found(api.FeErrSlow, 1, 1), found(api.FeErrSlow, 1, 1),
		found(api.FeErrSlow, 2, 2), found(api.FeErrOther, 2, 1), found(api.FeErrSlow, 2, 2), found(api.FeErrOther, 2, 1),
		found(api.FeErrSlow, 3, 3), found(api.FeErrOther, 3, 1), found(api.FeErrOther, 3, 2),
		found(api.FeErrSlow, 3, 3), found(api.FeErrOther, 3, 1), found(api.FeErrOther, 3, 2),
		found(api.FeErrSlow, 4, 1), found(api.FeErrSlow, 4, 1))
	f.Cables[0].Earth = encl(1000000, 1000000) // where the fault to the earth opens none
	f.Fuses[0].Points, f.Fuses[1].Points = []api.FePoint{point(500, 50, 60)}, []api.FePoint{point(500, 50, 60)}
	wantFaults(t, "to the earth it opens none", f,
		found(api.FeErrSlow, 1, 1), found(api.FeErrSlow, 1, 1),
		found(api.FeErrSlow, 2, 2), found(api.FeErrOther, 2, 1), found(api.FeErrSlow, 2, 2),
		found(api.FeErrSlow, 3, 3), found(api.FeErrOther, 3, 1), found(api.FeErrOther, 3, 2), found(api.FeErrSlow, 3, 3),
		found(api.FeErrSlow, 4, 1), found(api.FeErrSlow, 4, 1))
}
