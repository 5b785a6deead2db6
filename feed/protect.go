package feed

import (
	"iter"
	"slices"

	"linkboy/api"
)

// Melt returns how long a fuse takes to open at a current.
func Melt(f api.FeFeeder, fuse, current int) (t api.Encl, opens bool, e api.Errno) {
	if _, _, e := Check(f); e != api.OK {
		return api.Encl{}, false, e
	}
	if !isIndex(fuse, f.Fuses) {
		return api.Encl{}, false, api.ErrNone
	}
	if !isFlow(current) {
		return api.Encl{}, false, api.ErrRange
	}
	t, opens = melt(f.Fuses[fuse].Points, current)
	return t, opens, api.OK
}

// melt returns how long a fuse takes to open at a current, and whether it does.
func melt(points []api.FePoint, current int) (t api.Encl, opens bool) {
	for _, p := range points {
		if p.Current > current {
			break
		}
		t, opens = p.Melt, true
	}
	return t, opens
}

// Own returns the node at whose cable the protection of a node is.
func Own(f api.FeFeeder, node int) (int, api.Errno) {
	if e := checkIndex(&f, node); e != api.OK {
		return 0, e
	}
	return own(f.Nodes, node), api.OK
}

// own returns the own protection of a node, or none.
func own(nodes []api.FeNode, node int) int {
	last := none
	for p := range protections(nodes, node) {
		last = p
	}
	return last
}

// protections yields the protections on the path to a node.
func protections(nodes []api.FeNode, node int) iter.Seq[int] {
	return func(yield func(int) bool) {
		for n := range path(nodes, node) {
			if nodes[n].Fuse != none && !yield(n) {
				return
			}
		}
	}
}

// First returns the node whose protection certainly opens first when a fault at a node has a current.
func First(f api.FeFeeder, node, current int) (int, api.Errno) {
	if e := checkIndex(&f, node); e != api.OK {
		return 0, e
	}
	if !isFlow(current) {
		return 0, api.ErrRange
	}
	n := newNet(&f)
	for p := range protections(n.Nodes, node) {
		if n.isFirst(p, node, current) {
			return p, api.OK
		}
	}
	return none, api.OK
}

// isFirst reports whether a protection certainly opens first when a fault at a node has a current.
func (n *net) isFirst(protection, node, current int) bool {
	if _, opens := melt(n.points(protection), current); !opens {
		return false
	}
	for other := range protections(n.Nodes, node) {
		if other != protection && n.isHindered(protection, other, current) {
			return false
		}
	}
	return true
}

// isHindered reports whether a protection opens when a fault has a current, but another one, with the current of its
// cable besides, opens too, and not certainly later.
func (n *net) isHindered(protection, other, current int) bool {
	t, opens := melt(n.points(protection), current)
	if !opens {
		return false
	}
	u, opens := melt(n.points(other), current+n.busiest(other))
	return opens && t.Hi >= u.Lo
}

// mayHinder reports whether there is a current from the Lo to the Hi of the current of a fault, at which a protection is
// hindered by another one.
func (n *net) mayHinder(protection, other int, x api.Encl) bool {
	// Only at these currents one of the two times becomes another one, or begins to be: between them nothing changes.
	turns := []int{x.Lo}
	for _, p := range n.points(protection) {
		turns = append(turns, p.Current)
	}
	for _, p := range n.points(other) {
		turns = append(turns, p.Current-n.busiest(other))
	}
	return slices.ContainsFunc(turns, func(current int) bool {
		return within(current, x.Lo, x.Hi) && n.isHindered(protection, other, current)
	})
}

// points returns the points of the fuse of a protection.
func (n *net) points(protection int) []api.FePoint { return n.Fuses[n.Nodes[protection].Fuse].Points }

func isFlow(n int) bool { return within(n, 0, maxFlow) }
