package feed

import (
	"linkboy/api"
	"linkboy/lamp"
)

// Parts of a feeder, as Check returns them.
const (
	partCables = 1
	partFuses  = 2
	partNodes  = 3
)

const (
	none      = -1         // what is no index
	maxSource = 1000000000 // micro-ohms of a source
	maxOpen   = api.FePhases * api.MaxFeNodes
	maxFlow   = 10 * api.MaxCurrent // mA through a fuse
)

// Check checks a feeder.
func Check(f api.FeFeeder) (part, at int, e api.Errno) {
	if e := checkWhole(&f); e != api.OK {
		return 0, 0, e
	}
	if at, e := checkNamed(f.Cables, cableName, func(at int) api.Errno { return checkCable(&f.Cables[at]) }); e != api.OK {
		return partCables, at, e
	}
	if at, e := checkNamed(f.Fuses, fuseName, func(at int) api.Errno { return checkFuse(&f.Fuses[at]) }); e != api.OK {
		return partFuses, at, e
	}
	if at, e := checkNamed(f.Nodes, nodeName, func(at int) api.Errno { return checkNode(&f, at) }); e != api.OK {
		return partNodes, at, e
	}
	return 0, 0, api.OK
}

// checkWhole returns the error of what a feeder has as a whole.
func checkWhole(f *api.FeFeeder) api.Errno {
	switch {
	case len(f.Cables) > api.MaxCables || len(f.Fuses) > api.MaxFuses || len(f.Nodes) > api.MaxFeNodes:
		return api.ErrLong
	case len(f.Nodes) == 0:
		return api.ErrNone
	}
	return inRange(isEncl(f.Volts, 1, api.MaxVolts) && isEncl(f.Source, 1, maxSource) &&
		within(f.Drop, 0, api.MaxVolts) && within(f.Limit, 1, api.MaxMelt))
}

// checkNamed returns the first element of a list with an error, and this error: that of its name, or else what check returns.
func checkNamed[T any](list []T, nameOf func(one *T) string, check func(at int) api.Errno) (at int, e api.Errno) {
	for i := range list {
		name := nameOf(&list[i])
		if !lamp.Name(name) {
			return i, api.ErrForm
		}
		for j := range i {
			if nameOf(&list[j]) == name {
				return i, api.ErrTwice
			}
		}
		if e := check(i); e != api.OK {
			return i, e
		}
	}
	return 0, api.OK
}

func cableName(c *api.FeCable) string { return c.Name }

func fuseName(f *api.FeFuse) string { return f.Name }

func nodeName(n *api.FeNode) string { return n.Name }

// checkCable returns the error of a kind of cable but that of its name.
func checkCable(c *api.FeCable) api.Errno {
	return inRange(isEncl(c.Core, 1, api.MaxCore) && isEncl(c.Earth, 1, api.MaxCore) && isRating(c.Rated))
}

// checkFuse returns the error of a kind of fuse but that of its name.
func checkFuse(f *api.FeFuse) api.Errno {
	if !within(len(f.Points), 1, api.MaxPoints) {
		return api.ErrLong
	}
	are := isRating(f.Rated)
	for _, p := range f.Points {
		are = are && isRating(p.Current) && isEncl(p.Melt, 1, api.MaxMelt)
	}
	if !are {
		return api.ErrRange
	}
	for i := range len(f.Points) - 1 {
		p, next := f.Points[i], f.Points[i+1]
		if next.Current <= p.Current || next.Melt.Lo > p.Melt.Lo || next.Melt.Hi > p.Melt.Hi {
			return api.ErrArg
		}
	}
	return api.OK
}

// checkNode returns the error of a node but that of its name.
func checkNode(f *api.FeFeeder, at int) api.Errno {
	n := &f.Nodes[at]
	if at == 0 {
		if *n != (api.FeNode{Name: n.Name, Parent: none, Cable: none, Fuse: none}) {
			return api.ErrArg
		}
		return api.OK
	}
	if !isIndex(n.Parent, f.Nodes[:at]) || !isIndex(n.Cable, f.Cables) || n.Fuse != none && !isIndex(n.Fuse, f.Fuses) {
		return api.ErrNone
	}
	are := within(n.Length, 1, api.MaxCable)
	for _, x := range n.Loads {
		are = are && isEncl(x, 0, api.MaxLoad)
	}
	return inRange(are)
}

// checkIndex returns the error of a feeder, or of an index that is not that of a node.
func checkIndex(f *api.FeFeeder, node int) api.Errno {
	if _, _, e := Check(*f); e != api.OK {
		return e
	}
	if !isIndex(node, f.Nodes) {
		return api.ErrNone
	}
	return api.OK
}

// checkCabled returns the error of a feeder, or of an index that is not that of a node with a cable to it.
func checkCabled(f *api.FeFeeder, node int) api.Errno {
	if e := checkIndex(f, node); e != api.OK {
		return e
	}
	if node == 0 {
		return api.ErrArg
	}
	return api.OK
}

// inRange returns the error of numbers that are, or are not, in their ranges.
func inRange(are bool) api.Errno {
	if are {
		return api.OK
	}
	return api.ErrRange
}

func isRating(n int) bool { return within(n, 1, api.MaxCurrent) }

// isEncl reports whether an enclosure has numbers, and all of them are in a range.
func isEncl(x api.Encl, least, most int) bool { return least <= x.Lo && x.Lo <= x.Hi && x.Hi <= most }

// isIndex reports whether a number is the index of an element of a list.
func isIndex[T any](n int, list []T) bool { return within(n, 0, len(list)-1) }

// within reports whether a number is in a range.
func within(n, least, most int) bool { return least <= n && n <= most }
