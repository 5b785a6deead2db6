package layout_test

import (
	"math/rand"
	"reflect"
	"slices"
	"testing"

	"linkboy/api"
	"linkboy/layout"
)

// P5.4: the examples.
func TestBestExamples(t *testing.T) {
	k := example()
	if f := best(t, k); f.Layout != choice(1, 0, 0, 1, api.LoRight) || f.Value != 1618 || len(f.Reasons) != 0 {
		t.Errorf("Best = %+v", f)
	}
	k.Goal = api.LoSaving
	if f := best(t, k); f.Layout != choice(0, 0, 0, 1, api.LoRight) || f.Value != 31763 || len(f.Reasons) != 0 {
		t.Errorf("Best = %+v", f)
	}
}

// P5.4: reasons, layouts with the same value, and layouts that cannot be built, by hand.
func TestBestByHand(t *testing.T) {
	k := example()
	k.Sites = k.Sites[:2] // none on the right: LoRight cannot be built, the others are the same
	k.Poles = k.Poles[:1]
	wrong := api.LoReason{Kind: api.LoWrong}
	want := api.LoFound{Layout: choice(0, 0, 0, 1, api.LoLeft), Value: 3636, Reasons: []api.LoReason{wrong, wrong}}
	if f := best(t, k); !reflect.DeepEqual(f, want) {
		t.Errorf("Best = %+v, want %+v", f, want)
	}
	k.Sky = 79 // 40 for each lamp at full level, 20 at the half: two do, at the half
	if f := best(t, k); !reflect.DeepEqual(f, want) {
		t.Errorf("Best = %+v, want %+v", f, want)
	}
	k = example()
	k.PerKwh, k.Poles[0].Price, k.Poles[1].Price, k.Lamps[0].Price = 0, 0, 0, 0 // all are free
	want = api.LoFound{Layout: choice(0, 0, 0, 1, api.LoLeft)}
	if f := best(t, k); f.Layout != want.Layout || f.Value != 0 || len(f.Reasons) != 0 {
		t.Errorf("Best = %+v, want %+v", f, want)
	}
	k.Needs = []api.LoNeed{{Class: anything(api.LtLux)}}
	k.Sky = 20 // one lamp at the half level: LoRight alone
	sky := api.LoReason{Kind: api.LoSky}
	want = api.LoFound{Layout: choice(0, 0, 0, 1, api.LoRight), Reasons: []api.LoReason{sky}}
	if f := best(t, k); !reflect.DeepEqual(f, want) {
		t.Errorf("Best = %+v, want %+v", f, want)
	}
	k.Poles[0].Price = 1 // the second pole is better, also the layouts of it that do not do
	want = api.LoFound{Layout: choice(1, 0, 0, 1, api.LoRight), Reasons: []api.LoReason{sky}}
	if f := best(t, k); !reflect.DeepEqual(f, want) {
		t.Errorf("Best = %+v, want %+v", f, want)
	}
	k.Sky = 19
	if f, e := layout.Best(k); !reflect.ValueOf(f).IsZero() || e != api.ErrDown {
		t.Errorf("Best = %+v, %d", f, e)
	}
	if list := trade(t, k); len(list) != 0 {
		t.Errorf("Trade = %v", list)
	}
}

// P5.4, P5.7: against the definition; what Best returns is accepted.
func TestBest(t *testing.T) {
	found, reasons := 0, map[int]int{}
	someTasks(t, 6, 150, func(r *rand.Rand, k api.LoTask) {
		want, is := trueBest(k)
		f, e := layout.Best(k)
		if !is {
			if e != api.ErrDown || !reflect.ValueOf(f).IsZero() {
				t.Errorf("%+v: Best = %+v, %d", k, f, e)
			}
			return
		}
		found++
		if e != api.OK || f.Layout != want.Layout || f.Value != want.Value || !slices.Equal(f.Reasons, want.Reasons) {
			t.Errorf("%+v: Best = %+v, %d, want %+v", k, f, e, want)
		}
		for _, x := range f.Reasons {
			reasons[x.Kind]++
		}
		wantAccept(t, text(k), k, f, 0, api.OK)
	})
	if found < 80 || found == 150 {
		t.Errorf("%d of 150 tasks can be met", found)
	}
	for kind := api.LoWrong; kind <= api.LoGlare; kind++ {
		if reasons[kind] < 5 {
			t.Errorf("only %d reasons of kind %d", reasons[kind], kind)
		}
	}
}

// P5.5: each error, in their order: each certificate has all errors from one on.
func TestAcceptByHand(t *testing.T) {
	k := street()
	k.Needs[0].Class.Least = judged(t, k, 0).Least.Lo // for the layout lit
	f := best(t, k)
	if len(f.Reasons) < 3 || value(t, k, lit()) < f.Value {
		t.Fatalf("Best = %+v", f)
	}
	wantAccept(t, "best", k, f, 0, api.OK)
	bad := f
	bad.Reasons = slices.Clone(f.Reasons)
	for _, i := range []int{len(f.Reasons) - 1, 1, 0} {
		bad.Reasons[i] = api.LoReason{Kind: api.LoWindow}
		wantAccept(t, "reason", k, bad, i, api.LoErrReason)
	}
	bad.Reasons = bad.Reasons[1:]
	wantAccept(t, "few reasons", k, bad, -1, api.LoErrCount)
	bad.Reasons = append(slices.Clone(f.Reasons), f.Reasons[0])
	wantAccept(t, "many reasons", k, bad, -1, api.LoErrCount)
	bad.Reasons = nil
	wantAccept(t, "no reasons", k, bad, -1, api.LoErrCount)
	bad.Layout = choice(0, 0, 0, 3, api.LoRight)
	bad.Value = value(t, k, bad.Layout)
	wantAccept(t, "another layout", k, bad, -1, api.LoErrWhy)
	bad.Value++
	wantAccept(t, "another layout, another value", k, bad, -1, api.LoErrValue)
	bad.Layout.Step = 4
	wantAccept(t, "no layout", k, bad, -1, api.ErrNone)
	bad.Layout = f.Layout
	wantAccept(t, "another value", k, bad, -1, api.LoErrValue)
	bad = f
	bad.Value--
	wantAccept(t, "another value alone", k, bad, -1, api.LoErrValue)
	k.Goal = api.LoSaving
	wantAccept(t, "another goal", k, f, -1, api.LoErrValue)
	k.Lamps[0].Lamp, k.Lamps[1].Lamp = 2, 2 // too bright, so that the value is 0
	wantAccept(t, "wrong", k, f, -1, api.LoErrValue)
	f.Value = 0
	wantAccept(t, "wrong, with the value 0", k, f, -1, api.LoErrWhy)
	k.Goal = 3
	wantAccept(t, "no goal", k, f, 0, api.ErrArg)
}

// P5.5: a reason need not be the one that Why returns, if it holds; but it must hold for its own layout.
func TestAcceptOtherReasons(t *testing.T) {
	k := street()
	x := judged(t, k, 0) // for the layout lit
	k.Needs[0].Class.Least, k.Needs[0].Class.Average = x.Least.Lo, x.Average.Lo
	f := best(t, k)
	others, elsewhere := 0, 0
	for i, l := range trueBetter(k, f.Layout) {
		own, hold := f.Reasons[i], trueReasons(k, l)
		for kind := api.LoSky; kind <= api.LoGlare; kind++ {
			f.Reasons[i] = api.LoReason{Kind: kind}
			if slices.Contains(hold, f.Reasons[i]) {
				wantAccept(t, "another reason", k, f, 0, api.OK)
				others++
			} else {
				wantAccept(t, "no reason", k, f, i, api.LoErrReason)
				elsewhere++
			}
		}
		f.Reasons[i] = own
	}
	if others < 3 || elsewhere < 3 {
		t.Errorf("%d other reasons hold, %d do not", others, elsewhere)
	}
}

// P5.5, P5.7: any certificates, against the definition; those that are accepted have the layout and the value of Best.
func TestAccept(t *testing.T) {
	codes := map[api.Errno]int{}
	others := 0 // that are accepted with other reasons
	someTasks(t, 7, 60, func(r *rand.Rand, k api.LoTask) {
		good, e := layout.Best(k)
		list := all(t, k)
		for range 10 {
			f := api.LoFound{Layout: good.Layout, Value: good.Value, Reasons: slices.Clone(good.Reasons)}
			for range 1 + r.Intn(2) {
				spoil(r, k, list, &f)
			}
			at, x := trueAccept(k, f)
			wantAccept(t, text(k)+text(f), k, f, at, x)
			codes[x]++
			if x == api.OK && (e != api.OK || f.Layout != good.Layout || f.Value != good.Value) {
				t.Errorf("%+v: %+v is accepted, but Best = %+v, %d", k, f, good, e)
			}
			if x == api.OK && !slices.Equal(f.Reasons, good.Reasons) {
				others++
			}
		}
	})
	for _, e := range []api.Errno{api.OK, api.ErrNone, api.LoErrValue, api.LoErrWhy, api.LoErrCount, api.LoErrReason} {
		if codes[e] < 10 {
			t.Errorf("only %d of %d", codes[e], e)
		}
	}
	if others < 3 {
		t.Errorf("only %d accepted with other reasons", others)
	}
}

// spoil changes a certificate, often so that it stays one.
func spoil(r *rand.Rand, k api.LoTask, list []api.LoLayout, f *api.LoFound) {
	switch n := len(f.Reasons); r.Intn(7) {
	case 0:
		f.Layout = list[r.Intn(len(list))]
		f.Value = trueValue(k, f.Layout)
	case 1:
		f.Layout.Sides += r.Intn(3) - 1
	case 2:
		f.Value += r.Intn(3) - 1
	case 3:
		f.Reasons = f.Reasons[:n-n/4]
	case 4:
		f.Reasons = append(f.Reasons, api.LoReason{Kind: api.LoWrong})
	default:
		if n == 0 || !slices.Contains(list, f.Layout) {
			return
		}
		better := trueBetter(k, f.Layout)
		if n != len(better) {
			return
		}
		at := r.Intn(n)
		f.Reasons[at] = someReason(r)
		if hold := trueReasons(k, better[at]); len(hold) > 0 && r.Intn(2) == 0 {
			f.Reasons[at] = hold[r.Intn(len(hold))]
		}
	}
}

// P5.6: by hand.
func TestTradeByHand(t *testing.T) {
	k := example()
	// The second pole is cheaper, and one lamp at the half level costs, and burns, least: nothing else is kept.
	if list := trade(t, k); !slices.Equal(list, []api.LoLayout{choice(1, 0, 0, 1, api.LoRight)}) {
		t.Errorf("Trade = %v", list)
	}
	k.Poles[1].Price = 1000 // as dear as the first one: the first one alone
	if list := trade(t, k); !slices.Equal(list, []api.LoLayout{choice(0, 0, 0, 1, api.LoRight)}) {
		t.Errorf("Trade = %v", list)
	}
	// A lamp that burns less, but costs more.
	k.Scene.Catalog.Lamps = append(k.Scene.Catalog.Lamps, k.Scene.Catalog.Lamps[0])
	k.Scene.Catalog.Lamps[1].Name, k.Scene.Catalog.Lamps[1].Power = "thrifty", 40000
	k.Lamps = []api.LoLamp{{Lamp: 1, Price: 5000}, {Lamp: 0, Price: 500}}
	want := []api.LoLayout{choice(0, 0, 0, 1, api.LoRight), choice(0, 1, 0, 1, api.LoRight)}
	if list := trade(t, k); !slices.Equal(list, want) {
		t.Errorf("Trade = %v", list)
	}
	for k.Goal = range 3 { // 0 is none
		list, e := layout.Trade(k)
		if k.Goal == 0 && (e != api.ErrArg || len(list) != 0) || k.Goal > 0 && !slices.Equal(list, want) {
			t.Errorf("Trade = %v, %d", list, e)
		}
	}
	k.Lamps[0].Price = 500 // now the other one is neither cheaper nor better
	k.Goal = api.LoCheap
	if list := trade(t, k); !slices.Equal(list, want[:1]) {
		t.Errorf("Trade = %v", list)
	}
	k.Lamps[1].Lamp = 1 // both are the same
	if list := trade(t, k); !slices.Equal(list, want[:1]) {
		t.Errorf("Trade = %v", list)
	}
	// With the same power the cheaper one is kept, though it is later; with free energy, of the same cost the one that burns less.
	k.Lamps[1].Price = 400
	if list := trade(t, k); !slices.Equal(list, want[1:]) {
		t.Errorf("Trade = %v", list)
	}
	k.Lamps[0], k.Lamps[1], k.PerKwh = api.LoLamp{Lamp: 0, Price: 400}, api.LoLamp{Lamp: 1, Price: 400}, 0
	if list := trade(t, k); !slices.Equal(list, want[1:]) {
		t.Errorf("Trade = %v", list)
	}
}

// P5.6, P5.11: against the definition; the ends of what is traded are the best ones for the two goals.
func TestTrade(t *testing.T) {
	several := 0
	someTasks(t, 8, 150, func(r *rand.Rand, k api.LoTask) {
		list := trade(t, k)
		if want := trueTrade(k); !slices.Equal(list, want) {
			t.Errorf("%+v: Trade = %v, want %v", k, list, want)
		}
		if len(list) > 1 {
			several++
		}
		for k.Goal = api.LoCheap; k.Goal <= api.LoSaving; k.Goal++ {
			f, e := layout.Best(k)
			if (e == api.OK) != (len(list) > 0) {
				t.Errorf("%+v: Best: %d, Trade = %v", k, e, list)
			}
			least := -1
			for _, l := range list {
				if n := value(t, k, l); least < 0 || n < least {
					least = n
				}
			}
			if len(list) > 0 && least != f.Value {
				t.Errorf("%+v: Best = %+v, Trade has %d", k, f, least)
			}
		}
	})
	if several < 5 {
		t.Errorf("only %d with several", several)
	}
}

// P5.6: the example, and levels by hand.
func TestLowestByHand(t *testing.T) {
	k := example()
	for _, level := range []int{0, 1} {
		if n := must[int](t)(layout.Lowest(k, choice(0, 0, level, 1, api.LoLeft))); n != 0 {
			t.Errorf("Lowest = %d", n)
		}
	}
	k.Levels = []int{250, 500, 750, 1000}
	k.Needs = []api.LoNeed{{Class: anything(api.LtLux)}}
	for at := range k.Levels {
		k.Needs[0].Class.Average = judgedOf(t, k, choice(0, 0, at, 1, api.LoBoth)).Average.Lo
		for level := range k.Levels {
			if n := must[int](t)(layout.Lowest(k, choice(0, 0, level, 1, api.LoBoth))); n != at {
				t.Errorf("Lowest = %d, want %d", n, at)
			}
		}
	}
	k.Sky = 89 // now the level 750 sends too much to the sky, and those below are not enough
	k.Needs[0].Class.Average = judgedOf(t, k, choice(0, 0, 2, 1, api.LoBoth)).Average.Lo
	if n, e := layout.Lowest(k, choice(0, 0, 2, 1, api.LoBoth)); n != 0 || e != api.ErrDown {
		t.Errorf("Lowest = %d, %d", n, e)
	}
	if n, e := layout.Lowest(changed(k, func(t *api.LoTask) { t.Sky = 90 }), choice(0, 0, 0, 1, api.LoBoth)); n != 2 || e != api.OK {
		t.Errorf("Lowest = %d, %d", n, e)
	}
	k.Sites = k.Sites[:2]
	if n, e := layout.Lowest(k, choice(0, 0, 0, 1, api.LoRight)); n != 0 || e != api.ErrDown {
		t.Errorf("Lowest = %d, %d", n, e)
	}
}

// P5.6: against the definition.
func TestLowest(t *testing.T) {
	above := 0
	someTasks(t, 9, 250, func(r *rand.Rand, k api.LoTask) {
		list := all(t, k)
		l := list[r.Intn(len(list))]
		n, e := layout.Lowest(k, l)
		want, is := 0, api.ErrDown
		for at := len(k.Levels) - 1; at >= 0; at-- {
			if l.Level = at; len(trueReasons(k, l)) == 0 {
				want, is = at, api.OK
			}
		}
		if n != want || e != is {
			t.Errorf("%+v: Lowest(%v) = %d, %d, want %d, %d", k, l, n, e, want, is)
		}
		if n > 0 {
			above++
		}
	})
	if above < 5 {
		t.Errorf("only %d above the first one", above)
	}
}
