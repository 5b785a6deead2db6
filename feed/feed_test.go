package feed_test

import (
	"fmt"
	"math"
	"reflect"
	"slices"
	"testing"

	"linkboy/api"
	"linkboy/feed"
)

// P6.2
func TestPath(t *testing.T) {
	if got := pathOf(t, example(), 3); !slices.Equal(got, []int{1, 2, 3}) {
		t.Errorf("Path = %v", got)
	}
	for node, want := range [][]int{{}, {1}, {1, 2}, {1, 2, 3}, {1, 4}, {1, 2, 3, 5}, {1, 4, 6}, {7}} {
		if got := pathOf(t, town(), node); !slices.Equal(got, want) {
			t.Errorf("Path to %d = %v", node, got)
		}
	}
}

// P6.2
func TestCurrents(t *testing.T) {
	if got := currents(t, example(), 2); got != (loads{encl(2000, 3000), encl(1000, 1500), encl(0, 0)}) {
		t.Errorf("Currents = %v", got)
	}
	if got := currents(t, example(), 3); got != (loads{1: encl(1000, 1500)}) {
		t.Errorf("Currents = %v", got)
	}
	for node, want := range []loads{
		1: {encl(2110, 3220), encl(1030, 1840), encl(900, 1150)},
		2: {encl(2000, 3000), encl(1000, 1500), encl(500, 700)},
		3: {encl(0, 0), encl(1000, 1500), encl(500, 700)},
		4: {encl(110, 220), encl(30, 340), encl(400, 450)},
		5: {2: encl(500, 700)},
		6: {encl(10, 20), encl(30, 40), encl(0, 50)},
		7: {encl(1000, 2000), encl(1000, 2000), encl(1000, 2000)},
	} {
		if node == 0 {
			continue
		}
		if got := currents(t, town(), node); got != want {
			t.Errorf("Currents to %d = %v", node, got)
		}
	}
}

// fork returns a feeder with one node, which has loads.
func fork(x loads) api.FeFeeder {
	f := example()
	f.Nodes = f.Nodes[:2]
	f.Nodes[1].Loads = x
	return f
}

// P6.2
func TestNeutral(t *testing.T) {
	if got := neutral(t, example(), 2); got != 2646 {
		t.Errorf("Neutral = %d", got)
	}
	const most = api.MaxLoad
	for _, c := range []struct {
		x    loads
		want int
	}{
		{loads{}, 0},
		{loads{encl(7, 7)}, 7},
		{loads{1: encl(7, 7)}, 7},
		{loads{2: encl(0, 7)}, 7},
		{loads{encl(7, 7), encl(7, 7), encl(7, 7)}, 0},
		{loads{encl(7, 7), encl(7, 7), encl(0, 0)}, 7},
		{loads{encl(1, 7), encl(1, 7), encl(1, 7)}, 6},
		{loads{encl(3, 3), encl(5, 5), encl(8, 8)}, 5},                               // 19
		{loads{encl(7, 7), encl(15, 15)}, 13},                                        // 169
		{loads{encl(7, 7), encl(0, 0), encl(15, 15)}, 13},                            // 169
		{loads{encl(9, 9), encl(12, 12), encl(20, 20)}, 10},                          // 97
		{loads{encl(2, 2), encl(1, 1)}, 2},                                           // 3
		{loads{encl(2, 3), encl(2, 3)}, 3},                                           // 9, 7, 4
		{loads{encl(4, 5), encl(3, 8), encl(2, 9)}, 6},                               // 31: 4, 3, 9
		{loads{encl(most, most)}, most},                                              // the greatest
		{loads{encl(0, most), encl(0, most), encl(0, most)}, most},                   // at six of eight choices
		{loads{encl(most, most), encl(most-1, most-1), encl(0, 0)}, most},            // 999999000001, above 999999 squared
		{loads{encl(most, most), encl(1, 1), encl(0, 0)}, most},                      // likewise
		{loads{encl(most, most), encl(2, 2), encl(0, 0)}, most},                      // 999998000004, above 999999 squared
		{loads{encl(most, most), encl(2, 2), encl(1, 1)}, most - 1},                  // 999997000003, below 999999 squared
		{loads{encl(most, most), encl(most/2, most/2), encl(most/2, most/2)}, 5e5},   // 25 * 10^10
		{loads{encl(most, most), encl(most/2, most/2), encl(most/2-1, 5e5)}, 500001}, // just above
	} {
		if got := neutral(t, fork(c.x), 1); got != c.want {
			t.Errorf("Neutral of %v = %d, want %d", c.x, got, c.want)
		}
	}
}

// P6.3
func TestDrop(t *testing.T) {
	if a, b := drop(t, example(), 2, 0), drop(t, example(), 3, 1); a != 2033 || b != 1853 {
		t.Errorf("Drop = %d, %d", a, b)
	}
	for phase := range api.FePhases {
		if got := drop(t, town(), 0, phase); got != 0 {
			t.Errorf("Drop to the source = %d", got)
		}
	}
	f := fork(loads{encl(0, 1), encl(0, 0), encl(0, 3)}) // with a neutral current of 3
	for length, want := range map[int][3]int{1: {1, 1, 1}, 208: {1, 1, 2}, 209: {2, 1, 2}, 277: {2, 1, 2}, 278: {2, 2, 3}, 5000: {24, 18, 36}} {
		f.Nodes[1].Length = length
		for phase := range want {
			if got := drop(t, f, 1, phase); got != want[phase] {
				t.Errorf("%d m, phase %d: Drop = %d", length, phase, got)
			}
		}
	}
	f = fork(loads{})
	if got := drop(t, f, 1, 0); got != 0 {
		t.Errorf("Drop without currents = %d", got)
	}
	// Ten cables, each with 120000 micro-ohms times 2 mA: 0.24 mV each, 2.4 mV together.
	for i := 2; i <= 10; i++ {
		f.Nodes = append(f.Nodes, api.FeNode{Name: fmt.Sprint("n", i), Parent: i - 1, Length: 100, Fuse: -1})
	}
	f.Nodes[10].Loads[1] = encl(0, 1)
	for node, want := range []int{0, 1, 1, 1, 1, 2, 2, 2, 2, 3, 3} {
		if got := drop(t, f, node, 1); got != want {
			t.Errorf("Drop to %d = %d, want %d", node, got, want)
		}
	}
}

// P6.3: the greatest drop that there may be.
func TestGreatestDrop(t *testing.T) {
	f := example()
	f.Cables[0].Core = encl(1, api.MaxCore)
	f.Nodes = f.Nodes[:1]
	for i := 1; i < api.MaxFeNodes; i++ {
		f.Nodes = append(f.Nodes, api.FeNode{Name: fmt.Sprint("n", i), Parent: i - 1, Length: api.MaxCable, Fuse: -1, Loads: loads{encl(0, api.MaxLoad)}})
	}
	want := 0
	for cables := 1; cables <= 39; cables++ {
		want += api.MaxCore * api.MaxCable / 1000000 * (2 * (40 - cables) * api.MaxLoad)
	}
	if got := drop(t, f, 39, 0); got != want || want != 7800000000000 {
		t.Errorf("Drop = %d, want %d", got, want)
	}
	if got := neutral(t, f, 1); got != 39*api.MaxLoad {
		t.Errorf("Neutral = %d", got)
	}
	if got := fault(t, f, 39, false); got != (encl(0, 545455)) { // 440000 micro-ohms at least
		t.Errorf("Fault = %v", got)
	}
}

// P6.3
func TestFault(t *testing.T) {
	if a, b := fault(t, example(), 3, false), fault(t, example(), 1, false); a != encl(207547, 282353) || b != encl(647058, 960000) {
		t.Errorf("Fault = %v, %v", a, b)
	}
	for _, c := range []struct {
		node           int
		neutral, earth api.Encl
	}{
		{1, encl(647058, 960000), encl(647058, 960000)},
		{4, encl(372881, 533334), encl(269938, 400000)}, // 450000 to 590000, and 600000 to 815000 micro-ohms
		{6, encl(318840, 452831), encl(218905, 324325)}, // 530000 to 690000, and 740000 to 1005000
	} {
		f := town()
		if got := fault(t, f, c.node, false); got != c.neutral {
			t.Errorf("Fault at %d = %v", c.node, got)
		}
		if got := fault(t, f, c.node, true); got != c.earth {
			t.Errorf("Fault at %d to the earth = %v", c.node, got)
		}
	}
	f := fork(loads{})
	f.Nodes[1].Length, f.Volts = 1, encl(1, 1)
	f.Source, f.Cables[0].Core, f.Cables[0].Earth = encl(1, 999999998), encl(1, 1), encl(1, 2)
	if a, b := fault(t, f, 1, false), fault(t, f, 1, true); a != encl(0, 333334) || b != encl(0, 333334) {
		t.Errorf("Fault = %v, %v", a, b)
	}
	f.Source.Hi = 999998
	if a, b := fault(t, f, 1, false), fault(t, f, 1, true); a != encl(1, 333334) || b != encl(0, 333334) {
		t.Errorf("Fault = %v, %v", a, b)
	}
	f.Volts = encl(3, 1000000)
	if got := fault(t, f, 1, false); got != encl(3, 333333333334) {
		t.Errorf("Fault = %v", got)
	}
}

// P6.4
func TestMelt(t *testing.T) {
	for _, c := range []struct {
		fuse, current int
		want          api.Encl
	}{
		{0, 29999, encl(0, 0)}, {0, 30000, encl(100, 400)}, {0, 207547, encl(4, 8)},
		{0, 0, encl(0, 0)}, {0, 99999, encl(100, 400)}, {0, 100000, encl(4, 8)}, {0, 1000000000, encl(4, 8)},
		{1, 99999, encl(0, 0)}, {1, 100000, encl(500, 3000)}, {1, 399999, encl(500, 3000)}, {1, 400000, encl(10, 20)},
		{2, 11999, encl(0, 0)}, {2, 12000, encl(50, 90)}, {2, 20000, encl(20, 60)}, {2, 59999, encl(20, 60)}, {2, 60000, encl(1, 3)},
	} {
		if got, opens := melted(t, town(), c.fuse, c.current); got != c.want || opens != (c.want != api.Encl{}) {
			t.Errorf("Melt of %d at %d = %v, %v", c.fuse, c.current, got, opens)
		}
	}
}

// P6.4
func TestOwn(t *testing.T) {
	if a, b := own(t, example(), 3), own(t, example(), 1); a != 2 || b != 1 {
		t.Errorf("Own = %d, %d", a, b)
	}
	f := town()
	for node, want := range []int{-1, 1, 2, 2, 4, 2, 4, 7} {
		if got := own(t, f, node); got != want {
			t.Errorf("Own of %d = %d", node, got)
		}
	}
	f.Nodes[1].Fuse, f.Nodes[4].Fuse, f.Nodes[7].Fuse = -1, -1, -1
	for node, want := range []int{-1, -1, 2, 2, -1, 2, -1, -1} {
		if got := own(t, f, node); got != want {
			t.Errorf("Own of %d = %d", node, got)
		}
	}
}

// P6.4
func TestFirst(t *testing.T) {
	if a, b := first(t, example(), 3, 207547), first(t, example(), 1, 647058); a != 2 || b != 1 {
		t.Errorf("First = %d, %d", a, b)
	}
	f := example()
	for _, c := range []struct{ node, current, want int }{
		{0, 207547, -1},
		{3, 29999, -1},     // none opens
		{3, 30000, 2},      // the other one does not open
		{3, 96999, 2},      // nor here, with 3000 mA besides
		{3, 97000, 2},      // it opens here at 100000, but later
		{2, 397000, 2},     // 8 is below 10
		{2, 1000000000, 2}, // the greatest current
		{1, 99999, -1},
		{1, 100000, 1},
		{3, 0, -1},
	} {
		if got := first(t, f, c.node, c.current); got != c.want {
			t.Errorf("First for %d at %d = %d", c.node, c.current, got)
		}
	}
	f.Fuses[0].Points[1].Melt.Hi = 10 // as late at most as the other one at least
	f.Nodes[3].Loads[0] = encl(0, 700)
	for _, c := range []struct{ current, want int }{{396299, 2}, {396300, -1}, {400000, -1}} {
		for node := 2; node <= 3; node++ {
			if got := first(t, f, node, c.current); got != c.want {
				t.Errorf("First for %d at %d = %d", node, c.current, got)
			}
		}
	}
	f.Fuses[0].Points[1].Melt = encl(9, 9)
	if got := first(t, f, 2, 400000); got != 2 {
		t.Errorf("First = %d", got)
	}
}

// P6.4: one that is not the own protection, and one before which another one may open that is behind it, or two before it.
func TestFirstOfSeveral(t *testing.T) {
	f := example()
	f.Nodes[1].Fuse, f.Nodes[2].Fuse = 0, 1 // the fast one before the slow one
	for _, c := range []struct{ current, want int }{{29999, -1}, {30000, 1}, {96999, 1}, {97000, 1}, {100000, 1}, {400000, 1}} {
		if got := first(t, f, 3, c.current); got != c.want {
			t.Errorf("First at %d = %d", c.current, got)
		}
	}
	f.Nodes[1].Fuse = 1
	if got := first(t, f, 3, 400000); got != -1 {
		t.Errorf("First of two that are alike = %d", got)
	}
	if got := first(t, f, 3, 99999); got != -1 { // only the current of the cable opens the first one
		t.Errorf("First = %d", got)
	}
	f = town()
	f.Nodes[6].Fuse = 2
	f.Nodes[4].Fuse = 1
	for _, c := range []struct{ current, want int }{{11999, -1}, {12000, 6}, {96679, 6}, {399999, 6}, {400000, 6}} {
		if got := first(t, f, 6, c.current); got != c.want {
			t.Errorf("First at %d = %d", c.current, got)
		}
	}
	f.Nodes[1].Fuse = 2 // its cable has 3220 mA
	for _, c := range []struct{ current, want int }{{8779, -1}, {8780, -1}, {11999, -1}, {12000, -1}, {60000, -1}} {
		if got := first(t, f, 6, c.current); got != c.want {
			t.Errorf("First at %d = %d", c.current, got)
		}
	}
}

// P6.4: the current of the phase that has most of it counts, whichever this is.
func TestFirstPhase(t *testing.T) {
	for phase := range api.FePhases {
		f := example()
		f.Fuses[0].Points[1].Melt.Hi = 10
		f.Nodes[2].Loads, f.Nodes[3].Loads = loads{}, loads{encl(0, 1), encl(0, 1), encl(0, 1)}
		f.Nodes[3].Loads[phase] = encl(0, 1000)
		if a, b := first(t, f, 3, 398999), first(t, f, 3, 399000); a != 2 || b != -1 {
			t.Errorf("phase %d: First = %d, %d", phase, a, b)
		}
		f.Nodes[3].Loads = loads{}
		if a, b := first(t, f, 3, 399999), first(t, f, 3, 400000); a != 2 || b != -1 {
			t.Errorf("no loads: First = %d, %d", a, b)
		}
	}
}

func open(node, phase int) api.FeOpen { return api.FeOpen{Node: node, Phase: phase} }

// P6.6
func TestDark(t *testing.T) {
	if got := dark(t, example(), open(2, 0)); !slices.Equal(got, []api.FeOpen{open(2, 0), open(3, 0)}) {
		t.Errorf("Dark = %v", got)
	}
	for _, c := range []struct{ open, want []api.FeOpen }{
		{nil, nil},
		{[]api.FeOpen{open(4, 1)}, []api.FeOpen{open(4, 1), open(6, 1)}},
		{[]api.FeOpen{open(6, 2), open(5, 1)}, []api.FeOpen{open(5, 1), open(6, 2)}},
		{[]api.FeOpen{open(7, 2), open(7, 0), open(7, 2)}, []api.FeOpen{open(7, 0), open(7, 2)}},
		{[]api.FeOpen{open(0, 1)}, []api.FeOpen{open(0, 1), open(1, 1), open(2, 1), open(3, 1), open(4, 1), open(5, 1), open(6, 1), open(7, 1)}},
		{[]api.FeOpen{open(5, 0), open(1, 0), open(3, 2)}, []api.FeOpen{open(1, 0), open(2, 0), open(3, 0), open(3, 2), open(4, 0), open(5, 0), open(5, 2), open(6, 0)}},
	} {
		if got := dark(t, town(), c.open...); !slices.Equal(got, c.want) {
			t.Errorf("Dark with %v = %v", c.open, got)
		}
	}
	if got := dark(t, town(), more([]api.FeOpen{open(6, 2)}, 120)...); !slices.Equal(got, []api.FeOpen{open(6, 2)}) {
		t.Errorf("Dark = %v", got)
	}
}

// P6.2, P6.3, P6.4, P6.6, R2: errors, of several the one that is named first, with zero results.
func TestErrors(t *testing.T) {
	bad := changed(town(), func(f *api.FeFeeder) { f.Nodes[6].Length = 0 })
	empty := api.FeFeeder{}
	for _, c := range []struct {
		name string
		e    api.Errno
		of   func(f api.FeFeeder, node int) (any, api.Errno)
	}{
		{"Path", api.OK, func(f api.FeFeeder, node int) (any, api.Errno) { x, e := feed.Path(f, node); return x, e }},
		{"Currents", api.ErrArg, func(f api.FeFeeder, node int) (any, api.Errno) { x, e := feed.Currents(f, node); return x, e }},
		{"Neutral", api.ErrArg, func(f api.FeFeeder, node int) (any, api.Errno) { x, e := feed.Neutral(f, node); return x, e }},
		{"Drop", api.OK, func(f api.FeFeeder, node int) (any, api.Errno) { x, e := feed.Drop(f, node, 2); return x, e }},
		{"Drop without a phase", api.ErrRange, func(f api.FeFeeder, node int) (any, api.Errno) { x, e := feed.Drop(f, node, 3); return x, e }},
		{"Fault", api.ErrArg, func(f api.FeFeeder, node int) (any, api.Errno) { x, e := feed.Fault(f, node, false); return x, e }},
		{"Fault to the earth", api.ErrArg, func(f api.FeFeeder, node int) (any, api.Errno) { x, e := feed.Fault(f, node, true); return x, e }},
		{"Own", api.OK, func(f api.FeFeeder, node int) (any, api.Errno) { x, e := feed.Own(f, node); return x, e }},
		{"First", api.OK, func(f api.FeFeeder, node int) (any, api.Errno) { x, e := feed.First(f, node, 0); return x, e }},
		{"First below", api.ErrRange, func(f api.FeFeeder, node int) (any, api.Errno) { x, e := feed.First(f, node, -1); return x, e }},
		{"First above", api.ErrRange, func(f api.FeFeeder, node int) (any, api.Errno) { x, e := feed.First(f, node, 1000000001); return x, e }},
	} {
		want := func(f api.FeFeeder, node int, e api.Errno) {
			t.Helper()
			if x, got := c.of(f, node); got != e || e != api.OK && !reflect.ValueOf(x).IsZero() {
				t.Errorf("%s for %d: %v, %d, want %d", c.name, node, x, got, e)
			}
		}
		for _, node := range []int{-1, 0, 1, 7, 8} {
			want(bad, node, api.ErrRange)
			want(empty, node, api.ErrNone)
		}
		for _, node := range []int{-1, 8, math.MinInt, math.MaxInt} {
			want(town(), node, api.ErrNone)
		}
		want(town(), 0, c.e)
		if c.e == api.ErrArg {
			want(town(), 1, api.OK)
			want(town(), 7, api.OK)
		} else {
			want(town(), 7, c.e)
		}
	}
	for _, phase := range []int{-1, 3, math.MinInt, math.MaxInt} {
		if x, e := feed.Drop(town(), 1, phase); x != 0 || e != api.ErrRange {
			t.Errorf("Drop of phase %d: %d, %d", phase, x, e)
		}
	}
	for _, current := range []int{math.MinInt, math.MaxInt} {
		if x, e := feed.First(town(), 1, current); x != 0 || e != api.ErrRange {
			t.Errorf("First at %d: %d, %d", current, x, e)
		}
	}
	if l, e := feed.Judge(bad); l != nil || e != api.ErrRange {
		t.Errorf("Judge: %v, %d", l, e)
	}
}

// P6.4, R2
func TestMeltErrors(t *testing.T) {
	bad := changed(town(), func(f *api.FeFeeder) { f.Nodes[6].Parent = 6 })
	bad.Limit = 0
	for _, c := range []struct {
		f             api.FeFeeder
		fuse, current int
		e             api.Errno
	}{
		{bad, 0, 0, api.ErrRange}, {bad, 3, -1, api.ErrRange},
		{town(), -1, 0, api.ErrNone}, {town(), 3, 0, api.ErrNone}, {town(), math.MinInt, -1, api.ErrNone}, {town(), math.MaxInt, 1 << 40, api.ErrNone},
		{town(), 0, -1, api.ErrRange}, {town(), 2, 1000000001, api.ErrRange}, {town(), 0, math.MinInt, api.ErrRange}, {town(), 0, math.MaxInt, api.ErrRange},
	} {
		if x, opens, e := feed.Melt(c.f, c.fuse, c.current); x != (api.Encl{}) || opens || e != c.e {
			t.Errorf("Melt of %d at %d: %v, %v, %d, want %d", c.fuse, c.current, x, opens, e, c.e)
		}
	}
}

// P6.6, R1, R2
func TestDarkErrors(t *testing.T) {
	bad := changed(town(), func(f *api.FeFeeder) { f.Nodes[6].Parent = 6 })
	for _, c := range []struct {
		f    api.FeFeeder
		open []api.FeOpen
		e    api.Errno
	}{
		{bad, nil, api.ErrNone}, {bad, make([]api.FeOpen, 121), api.ErrNone},
		{town(), make([]api.FeOpen, 121), api.ErrLong},
		{town(), more([]api.FeOpen{open(8, 0)}, 121), api.ErrLong},
		{town(), make([]api.FeOpen, 120), api.OK},
		{town(), []api.FeOpen{open(8, 0)}, api.ErrNone},
		{town(), []api.FeOpen{open(-1, 0)}, api.ErrNone},
		{town(), []api.FeOpen{open(1, 1), open(1, 3)}, api.ErrNone},
		{town(), []api.FeOpen{open(1, 1), open(1, -1)}, api.ErrNone},
		{town(), []api.FeOpen{open(math.MinInt, 1)}, api.ErrNone},
		{town(), []api.FeOpen{open(1, math.MaxInt)}, api.ErrNone},
	} {
		if l, e := feed.Dark(c.f, c.open); e != c.e || e != api.OK && l != nil {
			t.Errorf("Dark with %v: %v, %d, want %d", c.open, l, e, c.e)
		}
	}
}
