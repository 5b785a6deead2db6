package feed

import "linkboy/api"

// judge looks for the faults of a feeder.
type judge struct {
	*net
	found []api.FeFault
}

// Judge returns what is wrong with a feeder.
func Judge(f api.FeFeeder) ([]api.FeFault, api.Errno) {
	if _, _, e := Check(f); e != api.OK {
		return nil, e
	}
	j := judge{net: newNet(&f)}
	looks := [...]func(node int){j.lookAtLoads, j.lookAtDrops, j.lookForProtection, j.lookAtNeutral, j.lookAtEarth}
	for node := 1; node < len(f.Nodes); node++ {
		for _, look := range looks {
			look(node)
		}
	}
	return j.found, api.OK
}

// add adds a fault to those that were found.
func (j *judge) add(e api.Errno, node, other int) {
	j.found = append(j.found, api.FeFault{Error: e, Node: node, Other: other})
}

// lookAtLoads finds the phases that carry more than the cable to a node, or its fuse, is rated for.
func (j *judge) lookAtLoads(node int) {
	at := &j.Nodes[node]
	rated := j.Cables[at.Cable].Rated
	if at.Fuse != none {
		rated = min(rated, j.Fuses[at.Fuse].Rated)
	}
	for phase, x := range j.flows[node].phases {
		if x.Hi > rated {
			j.add(api.FeErrLoad, node, phase)
		}
	}
}

// lookAtDrops finds the phases whose voltage drops too far.
func (j *judge) lookAtDrops(node int) {
	for phase := range api.FePhases {
		if j.drop(node, phase) > j.Drop {
			j.add(api.FeErrDrop, node, phase)
		}
	}
}

// lookForProtection finds whether a node has no protection.
func (j *judge) lookForProtection(node int) {
	if own(j.Nodes, node) == none {
		j.add(api.FeErrBare, node, none)
	}
}

func (j *judge) lookAtNeutral(node int) { j.lookAtFault(node, false) }

func (j *judge) lookAtEarth(node int) { j.lookAtFault(node, true) }

// lookAtFault finds whether a fault at a node is cut off too late by its own protection, if it has one, and which other
// ones may be as early.
func (j *judge) lookAtFault(node int, earth bool) {
	first := own(j.Nodes, node)
	if first == none {
		return
	}
	x := j.fault(node, earth)
	if t, opens := melt(j.points(first), x.Lo); !opens || t.Hi > j.Limit {
		j.add(api.FeErrSlow, node, first)
	}
	for other := range protections(j.Nodes, node) {
		if other != first && j.mayHinder(first, other, x) {
			j.add(api.FeErrOther, node, other)
		}
	}
}
