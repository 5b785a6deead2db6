package layout

import (
	"cmp"
	"errors"
	"slices"
	"strconv"

	"linkboy/api"
)

// unmet is the error of layouts of which none does.
type unmet struct{ tried int }

func (u unmet) Error() string { return "none of " + strconv.Itoa(u.tried) + " layouts does" }

// code returns the code of the error of a search.
func code(err error) api.Errno {
	var u unmet
	if errors.As(err, &u) {
		return api.ErrDown
	}
	return api.OK
}

// study is a task whose layouts are compared. It keeps their trials, so that nothing is judged twice.
type study struct {
	task   *api.LoTask
	trials map[api.LoLayout]*trial
}

func newStudy(t *api.LoTask) *study { return &study{t, map[api.LoLayout]*trial{}} }

// trial returns the trial of a layout.
func (s *study) trial(l api.LoLayout) *trial {
	c := s.trials[l]
	if c == nil {
		c = newTrial(s.task, l)
		s.trials[l] = c
	}
	return c
}

// sorted returns all layouts in another order; those that are the same in it stay in their own.
func (s *study) sorted(order func(a, b *trial) int) []api.LoLayout {
	return slices.SortedStableFunc(layouts(s.task), func(a, b api.LoLayout) int { return order(s.trial(a), s.trial(b)) })
}

// first returns the index of the first one of some layouts that does.
func (s *study) first(list []api.LoLayout) (int, error) {
	for i, l := range list {
		if s.trial(l).does() {
			return i, nil
		}
	}
	return 0, unmet{len(list)}
}

// better returns the layouts that are better than one.
func (s *study) better(than api.LoLayout) []api.LoLayout {
	value := s.trial(than).value()
	var list []api.LoLayout
	for l := range layouts(s.task) {
		order := cmp.Or(cmp.Compare(s.trial(l).value(), value), compare(l, than))
		if order < 0 {
			list = append(list, l)
		}
	}
	return list
}

// compare tells which one of two layouts of a task comes first.
func compare(a, b api.LoLayout) int {
	return cmp.Or(cmp.Compare(a.Pole, b.Pole), cmp.Compare(a.Lamp, b.Lamp), cmp.Compare(a.Level, b.Level),
		cmp.Compare(a.Step, b.Step), cmp.Compare(a.Sides, b.Sides))
}

// Best returns the best layout that does, and why all better ones do not.
func Best(t api.LoTask) (api.LoFound, api.Errno) {
	if _, _, e := Check(t); e != api.OK {
		return api.LoFound{}, e
	}
	s := newStudy(&t)
	list := s.sorted(func(a, b *trial) int { return cmp.Compare(a.value(), b.value()) })
	at, err := s.first(list)
	if e := code(err); e != api.OK {
		return api.LoFound{}, e
	}
	found := api.LoFound{Layout: list[at], Value: s.trial(list[at]).value()}
	for _, l := range s.better(found.Layout) {
		found.Reasons = append(found.Reasons, s.trial(l).why())
	}
	return found, api.OK
}

// Accept checks that nothing is better than a layout.
func Accept(t api.LoTask, f api.LoFound) (at int, e api.Errno) {
	if _, _, e := Check(t); e != api.OK {
		return 0, e
	}
	if !isLayout(&t, f.Layout) {
		return -1, api.ErrNone
	}
	s := newStudy(&t)
	own := s.trial(f.Layout)
	if own.value() != f.Value {
		return -1, api.LoErrValue
	}
	if !own.does() {
		return -1, api.LoErrWhy
	}
	list := s.better(f.Layout)
	if len(f.Reasons) != len(list) {
		return -1, api.LoErrCount
	}
	for i, l := range list {
		if !s.trial(l).holds(f.Reasons[i]) {
			return i, api.LoErrReason
		}
	}
	return 0, api.OK
}

// Trade returns the layouts that do, and of which no other one costs and burns less.
func Trade(t api.LoTask) ([]api.LoLayout, api.Errno) {
	if _, _, e := Check(t); e != api.OK {
		return nil, e
	}
	s := newStudy(&t)
	list := s.sorted(func(a, b *trial) int { return cmp.Or(cmp.Compare(a.cost, b.cost), cmp.Compare(a.power, b.power)) })
	var kept []api.LoLayout
	least := 0 // of the power of those that are kept, which cost no more than the next one
	for _, l := range list {
		c := s.trial(l)
		if (len(kept) == 0 || c.power < least) && c.does() {
			kept = append(kept, l)
			least = c.power
		}
	}
	slices.SortFunc(kept, compare)
	return kept, api.OK
}

// Lowest returns the lowest level with which a layout does.
func Lowest(t api.LoTask, l api.LoLayout) (int, api.Errno) {
	if e := checkLayout(&t, l); e != api.OK {
		return 0, e
	}
	var list []api.LoLayout
	for l.Level = range t.Levels {
		list = append(list, l)
	}
	at, err := newStudy(&t).first(list)
	return at, code(err)
}
