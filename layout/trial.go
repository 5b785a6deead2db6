package layout

import (
	"linkboy/api"
	"linkboy/light"
)

const perKwh = 1000000 // milliwatt-hours

// trial is a layout of a task that is tried.
type trial struct {
	task        *api.LoTask
	scene       api.LtScene
	wrong       bool                 // it cannot be built
	cost, power int                  // 0 if it is wrong
	judged      map[int]api.LtResult // by the indices of needs; a road that was judged is not judged again
}

// newTrial returns the trial of a layout.
func newTrial(t *api.LoTask, l api.LoLayout) *trial {
	c := &trial{task: t, scene: sceneOf(t, l), judged: map[int]api.LtResult{}}
	_, _, e := light.Check(c.scene)
	columns := len(c.scene.Road.Columns)
	if c.wrong = e != api.OK || columns == 0; !c.wrong {
		power, _ := light.Power(c.scene)
		c.power = power.Hi
		c.cost = columns*(t.Poles[l.Pole].Price+t.Lamps[l.Lamp].Price) + up(c.power*t.Hours*t.PerKwh, perKwh)
	}
	return c
}

// up returns n / d, rounded up; n is from 0 on, and d above 0.
func up(n, d int) int { return (n + d - 1) / d }

// value returns what the layout is chosen by.
func (c *trial) value() int {
	if c.task.Goal == api.LoSaving {
		return c.power
	}
	return c.cost
}

// judge returns the light of the road of a need.
func (c *trial) judge(need int) api.LtResult {
	r, is := c.judged[need]
	if !is {
		n := c.task.Needs[need]
		r, _ = light.Judge(c.scene, n.Road, n.Class)
		c.judged[need] = r
	}
	return r
}
