package feed_test

import (
	"math"
	"math/cmplx"
	"math/rand"
	"slices"
	"testing"

	"linkboy/api"
)

// P6.7: where no fault of selection is found, the own protection certainly opens first, in time, whatever others carry.
func TestSelective(t *testing.T) {
	selective := 0
	someFeeders(t, 7, 4000, func(r *rand.Rand, f api.FeFeeder) {
		list, known := judge(t, f), truthOf(f)
		for node := 1; node < len(f.Nodes); node++ {
			protection := own(t, f, node)
			spoils := func(x api.FeFault) bool {
				return x.Node == node && (x.Error == api.FeErrSlow || x.Error == api.FeErrOther)
			}
			if protection < 0 || slices.ContainsFunc(list, spoils) {
				continue
			}
			for _, earth := range []bool{false, true} {
				x := fault(t, f, node, earth)
				for _, current := range append(telling(r, known, node), x.Lo, x.Hi, x.Lo+r.Intn(x.Hi-x.Lo+1)) {
					if x.Lo <= current && current <= x.Hi && current <= 10*api.MaxCurrent {
						wantFirst(t, r, f, node, protection, current)
					}
				}
			}
			if len(known.trueProtections(node)) > 1 {
				selective++
			}
		}
	})
	if selective < 100 {
		t.Errorf("only %d nodes with several protections", selective)
	}
}

// wantFirst checks that a protection opens before all others on the path to a node, and in time, at a current of a fault.
func wantFirst(t *testing.T, r *rand.Rand, f api.FeFeeder, node, protection, current int) {
	t.Helper()
	if got := first(t, f, node, current); got != protection {
		t.Fatalf("%+v: First for %d at %d = %d, not %d", f, node, current, got, protection)
	}
	own, opens := melted(t, f, f.Nodes[protection].Fuse, current)
	if !opens || own.Hi > f.Limit {
		t.Fatalf("%+v: the protection of %d opens at %d after %v", f, node, current, own)
	}
	for _, other := range pathOf(t, f, node) {
		if other == protection || f.Nodes[other].Fuse < 0 {
			continue
		}
		carried := current + r.Intn(currents(t, f, other)[r.Intn(3)].Hi+1)
		if carried > 10*api.MaxCurrent {
			continue
		}
		if u, opens := melted(t, f, f.Nodes[other].Fuse, carried); opens && u.Lo <= own.Hi {
			t.Fatalf("%+v: with a fault of %d at %d, %d may open first at %d", f, current, node, other, carried)
		}
	}
}

// P6.8: what loses its supply with the own protection of a node.
func TestOwnOpens(t *testing.T) {
	someFeeders(t, 8, 800, func(r *rand.Rand, f api.FeFeeder) {
		protection, phase := own(t, f, r.Intn(len(f.Nodes))), r.Intn(3)
		if protection < 0 {
			return
		}
		var want []api.FeOpen
		for node := range f.Nodes {
			if slices.Contains(pathOf(t, f, node), protection) {
				want = append(want, open(node, phase))
			}
		}
		if got := dark(t, f, open(protection, phase)); !slices.Equal(got, want) {
			t.Fatalf("%+v: Dark with %d, %d = %v", f, protection, phase, got)
		}
	})
}

// realIn returns a number of an enclosure, often an end.
func realIn(r *rand.Rand, x api.Encl) float64 {
	switch r.Intn(3) {
	case 0:
		return float64(x.Lo)
	case 1:
		return float64(x.Hi)
	}
	return float64(x.Lo) + r.Float64()*float64(x.Hi-x.Lo)
}

// P6.9: the voltage that is lost on the cable from the source, with real numbers within all bounds.
func TestLost(t *testing.T) {
	nearest := 0.0
	someFeeders(t, 9, 3000, func(r *rand.Rand, f api.FeFeeder) {
		for node := 1; node < len(f.Nodes); node++ {
			if f.Nodes[node].Parent != 0 {
				continue
			}
			var sum complex128
			var x [3]complex128
			for n := range f.Nodes {
				if slices.Contains(pathOf(t, f, n), node) {
					for phase := range x {
						x[phase] += cmplx.Rect(realIn(r, f.Nodes[n].Loads[phase]), float64(phase)*2*math.Pi/3)
					}
				}
			}
			for phase := range x {
				sum += x[phase]
			}
			core := f.Cables[f.Nodes[node].Cable].Core
			length := float64(f.Nodes[node].Length)
			for phase := range x {
				lost := cmplx.Abs(complex(length*realIn(r, core), 0)*x[phase]+complex(length*realIn(r, core), 0)*sum) / 1e6
				most := drop(t, f, node, phase)
				if lost > float64(most)*(1+1e-12) {
					t.Fatalf("%+v: %v mV are lost on the way to %d, Drop = %d", f, lost, node, most)
				}
				if most > 100 {
					nearest = max(nearest, lost/float64(most))
				}
			}
		}
	})
	if nearest < 0.9 {
		t.Errorf("only %v of the drop was lost", nearest)
	}
}

// P6.10
func TestTrees(t *testing.T) {
	someFeeders(t, 10, 400, func(r *rand.Rand, f api.FeFeeder) {
		for node := 1; node < len(f.Nodes); node++ {
			want := f.Nodes[node].Loads
			for child := node + 1; child < len(f.Nodes); child++ {
				if f.Nodes[child].Parent == node {
					for phase, x := range currents(t, f, child) {
						want[phase].Lo += x.Lo
						want[phase].Hi += x.Hi
					}
				}
			}
			if got := currents(t, f, node); got != want {
				t.Fatalf("%+v: Currents to %d = %v, want %v", f, node, got, want)
			}
			parent := f.Nodes[node].Parent
			for phase := range 3 {
				if drop(t, f, node, phase) < drop(t, f, parent, phase) {
					t.Fatalf("%+v: less drop at %d than before", f, node)
				}
			}
			for _, earth := range []bool{false, true} {
				if parent == 0 {
					continue
				}
				if a, b := fault(t, f, parent, earth), fault(t, f, node, earth); b.Lo > a.Lo || b.Hi > a.Hi {
					t.Fatalf("%+v: more current of a fault at %d than before", f, node)
				}
			}
		}
	})
}

// P6.11: with wider loads.
func TestWider(t *testing.T) {
	someFeeders(t, 11, 1500, func(r *rand.Rand, f api.FeFeeder) {
		if len(f.Nodes) == 1 {
			return
		}
		wider := cloned(f)
		for range 1 + r.Intn(3) {
			x := &wider.Nodes[1+r.Intn(len(f.Nodes)-1)].Loads[r.Intn(3)]
			*x = encl(r.Intn(x.Lo+1), x.Hi+r.Intn(min(300, api.MaxLoad-x.Hi)+1))
		}
		for node := 1; node < len(f.Nodes); node++ {
			now := currents(t, wider, node)
			for phase, x := range currents(t, f, node) {
				if now[phase].Lo > x.Lo || now[phase].Hi < x.Hi {
					t.Fatalf("%+v, %+v: currents to %d", f, wider, node)
				}
				if drop(t, wider, node, phase) < drop(t, f, node, phase) {
					t.Fatalf("%+v, %+v: drop to %d", f, wider, node)
				}
			}
			if neutral(t, wider, node) < neutral(t, f, node) {
				t.Fatalf("%+v, %+v: neutral current of %d", f, wider, node)
			}
		}
		list := judge(t, wider)
		for _, x := range judge(t, f) {
			if (x.Error == api.FeErrLoad || x.Error == api.FeErrDrop) && !slices.Contains(list, x) {
				t.Fatalf("%+v, %+v: %v is gone", f, wider, x)
			}
		}
	})
}

// P6.11: with more open phases.
func TestMoreOpen(t *testing.T) {
	someFeeders(t, 12, 800, func(r *rand.Rand, f api.FeFeeder) {
		fewer := someOpen(r, f)
		more := append(someOpen(r, f), fewer...)
		r.Shuffle(len(more), func(i, j int) { more[i], more[j] = more[j], more[i] })
		now := dark(t, f, more...)
		for _, x := range dark(t, f, fewer...) {
			if !slices.Contains(now, x) {
				t.Fatalf("%+v: with %v, but not with %v, %v is dark", f, fewer, more, x)
			}
		}
	})
}
