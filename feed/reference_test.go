package feed_test

import (
	"math/big"
	"math/rand"
	"slices"
	"testing"

	"linkboy/api"
	"linkboy/feed"
)

// A second reading of the chapter's definitions, one after the other, with integers of any size: whether one protection may
// open before another one is asked for all pairs of their points.

// truth is a feeder with what is true of its nodes.
type truth struct {
	api.FeFeeder
	paths    [][]int
	currents []loads
	neutrals []int
}

func truthOf(f api.FeFeeder) *truth {
	x := &truth{FeFeeder: f}
	for node := range f.Nodes {
		x.paths = append(x.paths, truePath(f, node))
	}
	for node := range f.Nodes {
		x.currents = append(x.currents, x.trueCurrents(node))
		x.neutrals = append(x.neutrals, trueNeutral(x.currents[node]))
	}
	return x
}

func truePath(f api.FeFeeder, node int) []int {
	if node == 0 {
		return nil
	}
	return append(truePath(f, f.Nodes[node].Parent), node)
}

// trueCurrents returns the sums of the loads of all nodes on whose path a node is; those of all nodes for the source.
func (f *truth) trueCurrents(node int) (x loads) {
	for n := range f.Nodes {
		if node == 0 || slices.Contains(f.paths[n], node) {
			for phase := range x {
				x[phase].Lo += f.Nodes[n].Loads[phase].Lo
				x[phase].Hi += f.Nodes[n].Loads[phase].Hi
			}
		}
	}
	return x
}

func trueNeutral(x loads) (most int) {
	for choice := range 8 {
		end := func(phase int) int {
			if choice>>phase&1 == 1 {
				return x[phase].Hi
			}
			return x[phase].Lo
		}
		// Half the sum of the squares of all differences.
		a, b, c := end(0)-end(1), end(1)-end(2), end(2)-end(0)
		n := big.NewInt(int64((a*a + b*b + c*c) / 2))
		root := new(big.Int).Sqrt(n)
		if new(big.Int).Mul(root, root).Cmp(n) < 0 {
			root.Add(root, big.NewInt(1))
		}
		most = max(most, int(root.Int64()))
	}
	return most
}

func product(list ...int) *big.Int {
	p := big.NewInt(1)
	for _, n := range list {
		p.Mul(p, big.NewInt(int64(n)))
	}
	return p
}

// quotient returns a quotient of numbers that are not negative, rounded.
func quotient(a, b *big.Int, up bool) int {
	q, m := new(big.Int).DivMod(a, b, new(big.Int))
	if up && m.Sign() > 0 {
		q.Add(q, big.NewInt(1))
	}
	return int(q.Int64())
}

func (f *truth) trueDrop(node, phase int) int {
	lost := new(big.Int)
	for _, n := range f.paths[node] {
		lost.Add(lost, product(f.Nodes[n].Length, f.Cables[f.Nodes[n].Cable].Core.Hi, f.currents[n][phase].Hi+f.neutrals[n]))
	}
	return quotient(lost, big.NewInt(1000000), true)
}

func (f *truth) trueFault(node int, earth bool) api.Encl {
	lo, hi := product(f.Source.Lo), product(f.Source.Hi)
	for _, n := range f.paths[node] {
		cable, length := f.Cables[f.Nodes[n].Cable], f.Nodes[n].Length
		back := cable.Core
		if earth {
			back = cable.Earth
		}
		lo.Add(lo, product(length, cable.Core.Lo)).Add(lo, product(length, back.Lo))
		hi.Add(hi, product(length, cable.Core.Hi)).Add(hi, product(length, back.Hi))
	}
	return encl(quotient(product(1000000, f.Volts.Lo), hi, false), quotient(product(1000000, f.Volts.Hi), lo, true))
}

func trueMelt(p []api.FePoint, current int) (api.Encl, bool) {
	for i := len(p) - 1; i >= 0; i-- {
		if p[i].Current <= current {
			return p[i].Melt, true
		}
	}
	return api.Encl{}, false
}

func (f *truth) trueProtections(node int) (list []int) {
	for _, n := range f.paths[node] {
		if f.Nodes[n].Fuse >= 0 {
			list = append(list, n)
		}
	}
	return list
}

func (f *truth) trueOwn(node int) int {
	list := f.trueProtections(node)
	if len(list) == 0 {
		return -1
	}
	return list[len(list)-1]
}

func (f *truth) points(node int) []api.FePoint { return f.Fuses[f.Nodes[node].Fuse].Points }

// besides returns the greatest current that a protection may carry besides that of a fault.
func (f *truth) besides(node int) int {
	x := f.currents[node]
	return max(x[0].Hi, x[1].Hi, x[2].Hi)
}

func (f *truth) trueFirst(node, current int) int {
	for _, p := range f.trueProtections(node) {
		t, is := trueMelt(f.points(p), current)
		for _, q := range f.trueProtections(node) {
			if u, opens := trueMelt(f.points(q), current+f.besides(q)); q != p && opens {
				is = is && t.Hi < u.Lo
			}
		}
		if is {
			return p
		}
	}
	return -1
}

// trueHinders reports whether there is a current in bounds at which one protection opens, and another one too, with its own
// current besides, and not certainly later.
func (f *truth) trueHinders(one, other int, x api.Encl) bool {
	last := func(p []api.FePoint, i int) int { // the last current at which a point counts
		if i == len(p)-1 {
			return 1 << 60
		}
		return p[i+1].Current - 1
	}
	p, q, more := f.points(one), f.points(other), f.besides(other)
	for i := range p {
		for j := range q {
			from, to := max(x.Lo, p[i].Current, q[j].Current-more), min(x.Hi, last(p, i), last(q, j)-more)
			if from <= to && p[i].Melt.Hi >= q[j].Melt.Lo {
				return true
			}
		}
	}
	return false
}

func (f *truth) trueJudge() (list []api.FeFault) {
	for node := 1; node < len(f.Nodes); node++ {
		n := f.Nodes[node]
		for phase, x := range f.currents[node] {
			if x.Hi > f.Cables[n.Cable].Rated || n.Fuse >= 0 && x.Hi > f.Fuses[n.Fuse].Rated {
				list = append(list, found(api.FeErrLoad, node, phase))
			}
		}
		for phase := range 3 {
			if f.trueDrop(node, phase) > f.Drop {
				list = append(list, found(api.FeErrDrop, node, phase))
			}
		}
		first := f.trueOwn(node)
		if first < 0 {
			list = append(list, found(api.FeErrBare, node, -1))
			continue
		}
		for _, earth := range []bool{false, true} {
			x := f.trueFault(node, earth)
			if t, opens := trueMelt(f.points(first), x.Lo); !opens || t.Hi > f.Limit {
				list = append(list, found(api.FeErrSlow, node, first))
			}
			for _, other := range f.trueProtections(node) {
				if other != first && f.trueHinders(first, other, x) {
					list = append(list, found(api.FeErrOther, node, other))
				}
			}
		}
	}
	return list
}

func (f *truth) trueDark(open []api.FeOpen) (list []api.FeOpen) {
	for node := range f.Nodes {
		for phase := range 3 {
			isOpen := func(at int) bool { return slices.Contains(open, api.FeOpen{Node: at, Phase: phase}) }
			if isOpen(0) || slices.ContainsFunc(f.paths[node], isOpen) {
				list = append(list, api.FeOpen{Node: node, Phase: phase})
			}
		}
	}
	return list
}

// someOpen returns some phases that are open.
func someOpen(r *rand.Rand, f api.FeFeeder) (list []api.FeOpen) {
	for range r.Intn(6) {
		list = append(list, open(r.Intn(len(f.Nodes)), r.Intn(3)))
	}
	return list
}

// telling returns currents at which, or beside which, something changes for a node, and some others.
func telling(r *rand.Rand, f *truth, node int) []int {
	list := []int{r.Intn(1000), r.Intn(1000000001)}
	for _, p := range f.trueProtections(node) {
		at := f.points(p)[r.Intn(len(f.points(p)))].Current
		list = append(list, at-1, at, at-f.besides(p)-1, at-f.besides(p), r.Intn(at))
	}
	return slices.DeleteFunc(list, func(n int) bool { return n < 0 || n > 1000000000 })
}

// P6.2 to P6.6
func TestReference(t *testing.T) {
	counts := map[api.Errno]int{}
	certain := 0
	someFeeders(t, 6, 500, func(r *rand.Rand, f api.FeFeeder) {
		x := truthOf(f)
		for node := range f.Nodes {
			certain += sameAt(t, r, x, node)
		}
		list := judge(t, f)
		if want := x.trueJudge(); !slices.Equal(list, want) {
			t.Fatalf("%+v: Judge = %v, want %v", f, list, want)
		}
		for _, x := range list {
			counts[x.Error]++
		}
		open := someOpen(r, f)
		if got := dark(t, f, open...); !slices.Equal(got, x.trueDark(open)) {
			t.Fatalf("%+v: Dark of %v = %v", f, open, got)
		}
	})
	if certain < 1000 || len(counts) != 5 {
		t.Errorf("too few: %d protections are first, faults %v", certain, counts)
	}
}

// sameAt compares what is found for a node, and returns at how many currents one of several protections certainly opens first.
func sameAt(t *testing.T, r *rand.Rand, f *truth, node int) (certain int) {
	t.Helper()
	if !slices.Equal(pathOf(t, f.FeFeeder, node), f.paths[node]) || own(t, f.FeFeeder, node) != f.trueOwn(node) {
		t.Fatalf("%+v: another path, or own protection, of %d", f, node)
	}
	for phase := range 3 {
		if got, want := drop(t, f.FeFeeder, node, phase), f.trueDrop(node, phase); got != want {
			t.Fatalf("%+v: Drop to %d, %d = %d, want %d", f, node, phase, got, want)
		}
	}
	for _, current := range telling(r, f, node) {
		got, want := first(t, f.FeFeeder, node, current), f.trueFirst(node, current)
		if got != want {
			t.Fatalf("%+v: First for %d at %d = %d, want %d", f, node, current, got, want)
		}
		if got >= 0 && len(f.trueProtections(node)) > 1 {
			certain++
		}
	}
	if node == 0 {
		return certain
	}
	if got := currents(t, f.FeFeeder, node); got != f.currents[node] {
		t.Fatalf("%+v: Currents to %d = %v", f, node, got)
	}
	if got := neutral(t, f.FeFeeder, node); got != f.neutrals[node] {
		t.Fatalf("%+v: Neutral of %d = %d, want %d", f, node, got, f.neutrals[node])
	}
	for _, earth := range []bool{false, true} {
		if got, want := fault(t, f.FeFeeder, node, earth), f.trueFault(node, earth); got != want {
			t.Fatalf("%+v: Fault at %d = %v, want %v", f, node, got, want)
		}
	}
	return certain
}

// P6.4: at all currents.
func TestMeltReference(t *testing.T) {
	someFeeders(t, 64, 20, func(r *rand.Rand, f api.FeFeeder) {
		for fuse := range f.Fuses {
			p := f.Fuses[fuse].Points
			for _, current := range []int{r.Intn(1 << 24), p[0].Current - 1, p[0].Current, p[len(p)-1].Current - 1, p[len(p)-1].Current} {
				got, opens := melted(t, f, fuse, current)
				if want, does := trueMelt(p, current); got != want || opens != does {
					t.Errorf("%v: Melt at %d = %v, %v", p, current, got, opens)
				}
			}
		}
	})
}

// P6.5: whether a protection may open before the own one is found by looking at each current of the fault.
func TestOtherAtEachCurrent(t *testing.T) {
	r := rand.New(rand.NewSource(65))
	hinders, clear := 0, 0
	for range 600 {
		f := double(someFuse(r, "g", 2600).Points, someFuse(r, "f", 1600).Points)
		f.Volts = wide(r, 1500, 2500)
		f.Nodes[1].Loads[r.Intn(3)] = wide(r, 0, 500)
		more := truthOf(f).besides(1)
		x, want := fault(t, f, 2, false), false
		for current := x.Lo; current <= x.Hi; current++ {
			own, opens := trueMelt(f.Fuses[0].Points, current)
			other, does := trueMelt(f.Fuses[1].Points, current+more)
			want = want || opens && does && own.Hi >= other.Lo
		}
		if got := slices.Contains(judge(t, f), found(api.FeErrOther, 2, 1)); got != want {
			t.Fatalf("%+v: %v", f, got)
		}
		if want {
			hinders++
		} else {
			clear++
		}
	}
	if hinders < 50 || clear < 50 {
		t.Errorf("%d hinder, %d do not", hinders, clear)
	}
}

// P6.6: with as many open phases as there may be.
func TestDarkReference(t *testing.T) {
	r := rand.New(rand.NewSource(66))
	for range 30 {
		f := hugeFeeder(r)
		var open []api.FeOpen
		for range 1 + r.Intn(120) {
			open = append(open, api.FeOpen{Node: r.Intn(40), Phase: r.Intn(3)})
		}
		if got, e := feed.Dark(f, open); e != api.OK || !slices.Equal(got, truthOf(f).trueDark(open)) {
			t.Fatalf("Dark of %v = %v, %d", open, got, e)
		}
	}
}
