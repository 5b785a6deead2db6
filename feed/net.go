package feed

import (
	"sort"

	"linkboy/api"
)

const micros = 1000000 // micro-ohms of an ohm

// net is a feeder with the currents in its cables.
type net struct {
	*api.FeFeeder
	flows []flow // of the cables to all nodes; what behind the source flows together is the first one
}

// flow is what flows through a cable, in mA.
type flow struct {
	phases  [api.FePhases]api.Encl
	neutral int // at most
}

// newNet returns a feeder without errors, with the currents in its cables.
func newNet(f *api.FeFeeder) *net {
	n := &net{FeFeeder: f, flows: make([]flow, len(f.Nodes))}
	for node := range f.Nodes {
		n.flows[node] = flowTo(f.Nodes, node)
	}
	return n
}

// flowTo returns what flows through the cable to a node.
func flowTo(nodes []api.FeNode, node int) flow {
	var w flow
	visitBehind(nodes, node, func(n int) {
		for phase, load := range nodes[n].Loads {
			w.phases[phase] = sum(w.phases[phase], load)
		}
	})
	w.neutral = neutral(w.phases)
	return w
}

// neutral returns the greatest current of the neutral for currents of the phases.
func neutral(x [api.FePhases]api.Encl) int {
	most := 0
	for _, a := range ends(x[0]) {
		for _, b := range ends(x[1]) {
			for _, c := range ends(x[2]) {
				most = max(most, a*a+b*b+c*c-a*b-b*c-c*a)
			}
		}
	}
	return rootUp(most)
}

func ends(x api.Encl) [2]int { return [...]int{x.Lo, x.Hi} }

// rootUp returns the square root, up, of the square of a current of a cable, or of less.
func rootUp(n int) int {
	return sort.Search(api.MaxFeNodes*api.MaxLoad, func(r int) bool { return r*r >= n })
}

// busiest returns the greatest current that one of the phases of the cable to a node may have.
func (n *net) busiest(node int) int {
	most := 0
	for _, x := range n.flows[node].phases {
		most = max(most, x.Hi)
	}
	return most
}

// drop returns how far the voltage of a phase drops to a node at most.
func (n *net) drop(node, phase int) int {
	// The sum is greatest in a chain of all nodes, where it is below 8 * 10^18, so that it is no greater than an int.
	lost := 0
	for at := range path(n.Nodes, node) {
		w := n.flows[at]
		lost += n.core(at).Hi * (w.phases[phase].Hi + w.neutral)
	}
	return up(lost, micros)
}

// fault returns the current of a fault at a node: to the neutral, or to the earth.
func (n *net) fault(node int, earth bool) api.Encl {
	r := n.Source
	for at := range path(n.Nodes, node) {
		back := n.core(at)
		if earth {
			back = n.earth(at)
		}
		r = sum(r, sum(n.core(at), back))
	}
	return api.Encl{Lo: down(n.Volts.Lo*micros, r.Hi), Hi: up(n.Volts.Hi*micros, r.Lo)}
}

// core returns the resistance of a core of the cable to a node.
func (n *net) core(node int) api.Encl {
	at := &n.Nodes[node]
	return times(n.Cables[at.Cable].Core, at.Length)
}

// earth returns the resistance of the earth of the cable to a node.
func (n *net) earth(node int) api.Encl {
	at := &n.Nodes[node]
	return times(n.Cables[at.Cable].Earth, at.Length)
}

// Currents returns the currents of the cable to a node, by phases.
func Currents(f api.FeFeeder, node int) ([api.FePhases]api.Encl, api.Errno) {
	if e := checkCabled(&f, node); e != api.OK {
		return [api.FePhases]api.Encl{}, e
	}
	return flowTo(f.Nodes, node).phases, api.OK
}

// Neutral returns the greatest current of the neutral of the cable to a node.
func Neutral(f api.FeFeeder, node int) (int, api.Errno) {
	if e := checkCabled(&f, node); e != api.OK {
		return 0, e
	}
	return flowTo(f.Nodes, node).neutral, api.OK
}

// Drop returns how far the voltage of a phase drops to a node at most.
func Drop(f api.FeFeeder, node, phase int) (int, api.Errno) {
	if e := checkIndex(&f, node); e != api.OK {
		return 0, e
	}
	if !isPhase(phase) {
		return 0, api.ErrRange
	}
	return newNet(&f).drop(node, phase), api.OK
}

// Fault returns the current of a fault at a node: to the neutral, or to the earth.
func Fault(f api.FeFeeder, node int, earth bool) (api.Encl, api.Errno) {
	if e := checkCabled(&f, node); e != api.OK {
		return api.Encl{}, e
	}
	return newNet(&f).fault(node, earth), api.OK
}

// sum returns the enclosure of the sum of two numbers.
func sum(a, b api.Encl) api.Encl { return api.Encl{Lo: a.Lo + b.Lo, Hi: a.Hi + b.Hi} }

// times returns the enclosure of a number times one that is not negative.
func times(x api.Encl, n int) api.Encl { return api.Encl{Lo: x.Lo * n, Hi: x.Hi * n} }

// down returns the quotient of two numbers that are not negative, rounded down.
func down(a, b int) int { return a / b }

// up returns the quotient of two numbers that are not negative, rounded up.
func up(a, b int) int {
	q := a / b
	if a%b > 0 {
		q++
	}
	return q
}
