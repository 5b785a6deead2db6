package road

import "linkboy/api"

// Faces reports whether a lamp is on the street side of a front.
func Faces(s api.RdScene, column, front int) (bool, api.Errno) {
	c, e := pick(s, s.Columns, column)
	if e != api.OK {
		return false, e
	}
	f, e := element(s.Fronts, front)
	if e != api.OK {
		return false, e
	}
	along := [2]int{f.B[0] - f.A[0], f.B[1] - f.A[1]}
	return cross(along, [2]int{c.X - f.A[0], c.Y - f.A[1]}) > 0, api.OK
}

// Window returns a box that contains a window.
func Window(s api.RdScene, front, window int) (api.RdBox, api.Errno) {
	f, e := pick(s, s.Fronts, front)
	if e != api.OK {
		return api.RdBox{}, e
	}
	w, e := element(f.Windows, window)
	if e != api.OK {
		return api.RdBox{}, e
	}
	x0, x1 := bounds(f.A[0], f.B[0], w)
	y0, y1 := bounds(f.A[1], f.B[1], w)
	return api.RdBox{X0: x0, Y0: y0, X1: x1, Y1: y1, Low: w.Low, High: w.High}, api.OK
}

// bounds returns the greatest integer that is not above, and the least one that is not below, one coordinate of all
// points of a window; a and b are this coordinate of both ends of the front.
func bounds(a, b int, w *api.RdWindow) (least, most int) {
	from, to := a*(api.All-w.From)+b*w.From, a*(api.All-w.To)+b*w.To
	return down(min(from, to), api.All), up(max(from, to), api.All)
}
