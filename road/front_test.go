package road_test

import (
	"math"
	"math/rand"
	"testing"

	"linkboy/api"
	"linkboy/road"
)

// oneFront returns a scene with a front, with one window, and a column.
func oneFront(a, b [2]int, w api.RdWindow, x, y int) api.RdScene {
	return api.RdScene{
		Fronts:  []api.RdFront{{A: a, B: b, Windows: []api.RdWindow{w}}},
		Columns: []api.RdColumn{{Name: "c", X: x, Y: y, Height: 1, DX: 1}},
	}
}

// P3.6
func TestFaces(t *testing.T) {
	far := api.MaxRdPlace
	for _, c := range []struct {
		a, b [2]int
		x, y int
		want bool
	}{
		{[2]int{10000, 5000}, [2]int{0, 5000}, 4000, 4000, true}, // the example
		{[2]int{10000, 5000}, [2]int{0, 5000}, 4000, 6000, false},
		{[2]int{10000, 5000}, [2]int{0, 5000}, 4000, 5000, false},  // on it
		{[2]int{10000, 5000}, [2]int{0, 5000}, 40000, 5000, false}, // on the straight line beside it
		{[2]int{10000, 5000}, [2]int{0, 5000}, 40000, 4999, true},
		{[2]int{0, 5000}, [2]int{10000, 5000}, 4000, 6000, true},
		{[2]int{0, 0}, [2]int{3, 1}, 6, 2, false},
		{[2]int{0, 0}, [2]int{3, 1}, 5, 2, true},
		{[2]int{0, 0}, [2]int{3, 1}, 7, 2, false},
		{[2]int{-far, -far}, [2]int{far, far}, far - 1, far, true},
		{[2]int{-far, -far}, [2]int{far, far}, -far, -far, false},
		{[2]int{-far, -far}, [2]int{far, far}, far, far - 1, false},
		{[2]int{-far, -far}, [2]int{far, far}, far, -far, false},
		{[2]int{far, far}, [2]int{-far, -far}, far, -far, true},
	} {
		s := oneFront(c.a, c.b, api.RdWindow{To: 1, High: 1}, c.x, c.y)
		if is, e := road.Faces(s, 0, 0); is != c.want || e != api.OK {
			t.Errorf("Faces of %v, %v and %d, %d = %v, %d", c.a, c.b, c.x, c.y, is, e)
		}
	}
	for _, c := range []struct{ column, front int }{{-1, 0}, {1, 0}, {0, -1}, {0, 1}, {math.MaxInt, math.MinInt}, {math.MinInt, 0}, {0, math.MaxInt}} {
		if is, e := road.Faces(example(), c.column, c.front); is || e != api.ErrNone {
			t.Errorf("Faces(%d, %d) = %v, %d", c.column, c.front, is, e)
		}
	}
	s := two()
	s.Columns[1].X, s.Columns[1].Y = -5, 6000
	for column := range 2 {
		for front := range 2 {
			if is, e := road.Faces(s, column, front); is != (column == front) || e != api.OK {
				t.Errorf("Faces(%d, %d) = %v, %d", column, front, is, e)
			}
		}
	}
}

// P3.6: the example, and rounding away from the window.
func TestWindow(t *testing.T) {
	far := api.MaxRdPlace
	for _, c := range []struct {
		a, b [2]int
		w    api.RdWindow
		want api.RdBox
	}{
		{[2]int{10000, 5000}, [2]int{0, 5000}, api.RdWindow{From: 250, To: 750, Low: 10, High: 30}, api.RdBox{X0: 2500, Y0: 5000, X1: 7500, Y1: 5000, Low: 10, High: 30}},
		{[2]int{0, 0}, [2]int{10, -10}, api.RdWindow{From: 150, To: 250, Low: 0, High: 1}, api.RdBox{X0: 1, Y0: -3, X1: 3, Y1: -1, Low: 0, High: 1}},
		{[2]int{0, 0}, [2]int{10, -10}, api.RdWindow{From: 200, To: 300, Low: 0, High: 1}, api.RdBox{X0: 2, Y0: -3, X1: 3, Y1: -2, Low: 0, High: 1}},
		{[2]int{5, 7}, [2]int{6, 7}, api.RdWindow{From: 0, To: 1, Low: 5, High: 1000}, api.RdBox{X0: 5, Y0: 7, X1: 6, Y1: 7, Low: 5, High: 1000}},
		{[2]int{-5, -7}, [2]int{-6, -7}, api.RdWindow{From: 0, To: 1, Low: 5, High: 1000}, api.RdBox{X0: -6, Y0: -7, X1: -5, Y1: -7, Low: 5, High: 1000}},
		{[2]int{-5, -7}, [2]int{-6, -7}, api.RdWindow{From: 999, To: 1000, Low: 5, High: 6}, api.RdBox{X0: -6, Y0: -7, X1: -5, Y1: -7, Low: 5, High: 6}},
		{[2]int{-far, far}, [2]int{far, -far}, api.RdWindow{From: 0, To: 1000, Low: 5, High: 6}, api.RdBox{X0: -far, Y0: -far, X1: far, Y1: far, Low: 5, High: 6}},
	} {
		if box, e := road.Window(oneFront(c.a, c.b, c.w, 0, 0), 0, 0); box != c.want || e != api.OK {
			t.Errorf("Window %v of %v, %v = %v, %d, want %v", c.w, c.a, c.b, box, e, c.want)
		}
	}
	for _, c := range []struct{ front, window int }{{-1, 0}, {2, 0}, {0, -1}, {0, 1}, {1, 2}, {math.MaxInt, 0}, {0, math.MinInt}, {math.MinInt, math.MaxInt}} {
		if box, e := road.Window(two(), c.front, c.window); box != (api.RdBox{}) || e != api.ErrNone {
			t.Errorf("Window(%d, %d) = %v, %d", c.front, c.window, box, e)
		}
	}
	s := two()
	s.Fronts[1].Windows[1].Low = 2
	if box, e := road.Window(s, 1, 1); box.Low != 2 || e != api.OK {
		t.Errorf("Window(1, 1) = %v, %d", box, e)
	}
}

// P3.6: any windows: the least box, as exact fractions say.
func TestWindowIsLeast(t *testing.T) {
	r := rand.New(rand.NewSource(7))
	for i := range 1000 {
		s := sizes[i%3].scene(r)
		for k, f := range s.Fronts {
			for j, w := range f.Windows {
				ends := func(axis int) (least, most int) {
					at := func(n int) int { return f.A[axis]*1000 + (f.B[axis]-f.A[axis])*n }
					from, to := at(w.From), at(w.To)
					return floor(fraction(min(from, to), 1000)), ceil(fraction(max(from, to), 1000))
				}
				want := api.RdBox{Low: w.Low, High: w.High}
				want.X0, want.X1 = ends(0)
				want.Y0, want.Y1 = ends(1)
				if box, e := road.Window(s, k, j); box != want || e != api.OK {
					t.Fatalf("Window %v of %v = %v, %d, want %v", w, f, box, e, want)
				}
			}
		}
	}
}
