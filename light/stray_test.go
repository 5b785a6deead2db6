package light_test

import (
	"math"
	"math/rand"
	"testing"

	"linkboy/api"
	"linkboy/lamp"
	"linkboy/light"
	"linkboy/road"
)

func wantWindow(t *testing.T, s api.LtScene, front, at, want int, e api.Errno) {
	t.Helper()
	if n, f := light.Window(s, front, at); n != want || f != e {
		t.Errorf("Window(%d, %d) = %d, %d, want %d, %d", front, at, n, f, want, e)
	}
}

// behind returns the scene even with a front that is 8 m before the lamp, and a window 2 m wide in the middle.
func behind(low, high int) api.LtScene {
	s := even()
	s.Catalog.Tables[0].Values[1][1] = 600
	s.Catalog.Tables[0].Sky = 30
	s.Road.Fronts = []api.RdFront{{A: [2]int{5000, 8000}, B: [2]int{-5000, 8000}, Windows: []api.RdWindow{{From: 400, To: 600, Low: low, High: high}}}}
	return s
}

// P4.6: windows below, above and beside the lamp, worked out by hand; it is 8 m high, with 8000 lumens.
func TestWindowByHand(t *testing.T) {
	// From 4 to 6 m below the lamp: the nearest point is 8 m away and 4 m below. At the depth 4000 it is 8000 along,
	// and a point 6 m below in the same direction as one there that is 5333 along: tangents from 1333 to 2000.
	s := behind(20, 40)
	i := must[api.Encl](t)(lamp.Towards(s.Catalog, 0, s.Uses[0], rect(-1000, 1000, 5333, 8000), 4000))
	if i.Hi <= 3200 || i.Hi >= 4800 {
		t.Fatalf("%v", i)
	}
	wantWindow(t, s, 0, 0, up(80000000, 1000000, i.Hi), api.OK)
	wantWindow(t, behind(80, 90), 0, 0, up(64000000, 1000000, 30*8), api.OK) // from the height of the lamp upwards
	wantWindow(t, behind(90, 91), 0, 0, up(65000000, 1000000, 30*8), api.OK)
	wantWindow(t, behind(79, 81), 0, 0, up(64000000, 1000000, 600*8), api.OK) // both below and above
	wantWindow(t, behind(70, 80), 0, 0, up(64000000, 1000000, 600*8), api.OK) // up to its height
	s = behind(79, 81)
	s.Catalog.Tables[0].Sky = 601
	wantWindow(t, s, 0, 0, up(64000000, 1000000, 601*8), api.OK)
	s.Catalog.Tables[0].Side = 602
	wantWindow(t, s, 0, 0, up(64000000, 1000000, 602*8), api.OK)
	s.Road.Columns[0].Y = 7999 // a millimetre before the window
	wantWindow(t, s, 0, 0, 1000000*602*8, api.OK)
	s.Road.Columns[0].Y = 8000 // in the front
	wantWindow(t, s, 0, 0, 0, api.OK)
	s.Road.Columns[0].Y = 8001 // behind it
	wantWindow(t, s, 0, 0, 0, api.OK)
	s = behind(20, 40)
	s.Lamps[0] = -1
	wantWindow(t, s, 0, 0, 0, api.OK)
}

// P4.6: the box of a window may reach to the place of the column, from which it is at least 1 mm then.
func TestWindowAtTheLamp(t *testing.T) {
	s := behind(79, 81)
	s.Road.Fronts[0].A, s.Road.Fronts[0].B = [2]int{5000, 5001}, [2]int{-5000, -5000}
	if faces, _ := road.Faces(s.Road, 0, 0); !faces {
		t.Fatal("the lamp is behind the front")
	}
	wantWindow(t, s, 0, 0, 1000000*600*8, api.OK)
}

// P4.6
func TestWindowErrors(t *testing.T) {
	for _, at := range []int{-1, 1, math.MinInt, math.MaxInt} {
		wantWindow(t, street(), at, 0, 0, api.ErrNone)
		wantWindow(t, street(), 0, at, 0, api.ErrNone)
	}
	wantWindow(t, example(), 0, 0, 0, api.ErrNone)
}

// P4.6: against the definition.
func TestWindowsOfScenes(t *testing.T) {
	lit := 0
	someScenes(t, 5, 3000, func(r *rand.Rand, z size, s api.LtScene) {
		for front, f := range s.Road.Fronts {
			for at := range f.Windows {
				want := trueWindow(s, front, at)
				wantWindow(t, s, front, at, want, api.OK)
				if want > 0 {
					lit++
				}
			}
		}
	})
	if lit < 1000 {
		t.Errorf("only %d windows are lit", lit)
	}
}

// P4.6: each column has its own rounding.
func TestSkyAndPower(t *testing.T) {
	someScenes(t, 6, 1000, func(r *rand.Rand, z size, s api.LtScene) {
		sky, power := 0, encl(0, 0)
		for i, n := range s.Lamps {
			if n == -1 {
				continue
			}
			f := must[api.Encl](t)(lamp.Flux(s.Catalog, n, s.Uses[i]))
			sky += up(1000, s.Catalog.Tables[s.Catalog.Lamps[n].Table].Sky, f.Hi)
			power = plus(power, must[api.Encl](t)(lamp.Power(s.Catalog, n, s.Uses[i].Level)))
		}
		if n, e := light.Sky(s); n != sky || e != api.OK {
			t.Errorf("Sky = %d, %d, want %d", n, e, sky)
		}
		if x, e := light.Power(s); x != power || e != api.OK {
			t.Errorf("Power = %v, %d, want %v", x, e, power)
		}
	})
	bare := street()
	bare.Lamps = []int{-1, -1}
	if n, e := light.Sky(bare); n != 0 || e != api.OK {
		t.Errorf("Sky = %d, %d", n, e)
	}
	if x, e := light.Power(bare); x != encl(0, 0) || e != api.OK {
		t.Errorf("Power = %v, %d", x, e)
	}
}
