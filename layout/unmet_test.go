package layout

import (
	"errors"
	"testing"

	"linkboy/api"
)

// P5.4, P5.6: a search in which no layout does tells how many were tried.
func TestUnmet(t *testing.T) {
	k := api.LoTask{
		Scene:  api.LtScene{Surface: -1},
		Sites:  []api.LoSite{{DX: 1}},
		Poles:  []api.LoPole{{Height: 80}},
		Levels: []int{1000},
		Steps:  2,
	}
	k.Scene.Catalog.Tables = []api.LmTable{{Name: "a", Us: []int{0, 1}, Vs: []int{0, 1}, Values: [][]int{{0, 0}, {0, 0}}, Sky: 1000}}
	k.Scene.Catalog.Lamps = []api.LmLamp{{Name: "a", Kind: api.LmLed, Lumens: 8000, Power: 1, Life: 1}}
	k.Lamps = []api.LoLamp{{Lamp: 0}}
	list := []api.LoLayout{{Step: 1, Sides: api.LoLeft}, {Step: 2, Sides: api.LoLeft}, {Step: 1, Sides: api.LoRight}}
	at, err := newStudy(&k).first(list)
	var u unmet
	if at != 0 || !errors.As(err, &u) || u.tried != 3 || err.Error() != "none of 3 layouts does" || code(err) != api.ErrDown {
		t.Errorf("%d, %v", at, err)
	}
	k.Sky = 8000
	at, err = newStudy(&k).first(list[1:])
	if at != 0 || err != nil || code(err) != api.OK {
		t.Errorf("%d, %v", at, err)
	}
}
