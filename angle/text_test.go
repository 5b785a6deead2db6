package angle_test

import (
	"math"
	"math/rand"
	"strings"
	"testing"

	"linkboy/angle"
	"linkboy/api"
)

// P1.6
func TestRead(t *testing.T) {
	for _, c := range []struct {
		s       string
		a, axis int
	}{
		{"51.5074N", 51507400, api.AnNorth},
		{"0.1278W", -127800, api.AnEast},
		{"007.50S", -7500000, api.AnNorth},
		{"0N", 0, api.AnNorth},
		{"0S", 0, api.AnNorth},
		{"000.000000W", 0, api.AnEast},
		{"0.000001E", 1, api.AnEast},
		{"0.000001W", -1, api.AnEast},
		{"1.000001E", 1000001, api.AnEast},
		{"12.3E", 12300000, api.AnEast},
		{"90N", 90 * degree, api.AnNorth},
		{"090.0S", -90 * degree, api.AnNorth},
		{"89.999999S", -89999999, api.AnNorth},
		{"90.000001E", 90000001, api.AnEast},
		{"180.000000E", 180 * degree, api.AnEast},
		{"180W", -180 * degree, api.AnEast},
	} {
		if a, axis, e := angle.Read(c.s); a != c.a || axis != c.axis || e != api.OK {
			t.Errorf("Read(%q) = %d, %d, %d, want %d, %d", c.s, a, axis, e, c.a, c.axis)
		}
	}
}

// P1.6
func TestReadErrors(t *testing.T) {
	for e, l := range map[api.Errno][]string{
		api.ErrLong: {"5N                   ", "000000000000000000001N", strings.Repeat("9", 21), strings.Repeat("é", 11), strings.Repeat("x", 100000)},
		api.ErrForm: {
			"", "N", "5", ".", ".N", "5.N", ".5N", "5.5", "5 N", " 5N", "5N ", "5N\n", "-5N", "+5N", "5,5N", "5.5.5N", "5..5N",
			"0005N", "5.1234567N", "0.0000000N", "5n", "5X", "5NE", "N5", "5N5", "1e2N", "0x5N", "٥N", "5é", "5.é5N", "5.-5N",
			"9999N", "999.9999999E", strings.Repeat("9", 20), strings.Repeat("9", 19) + "N", "\x005N",
		},
		api.ErrRange: {"90.000001N", "90.000001S", "91N", "180N", "999N", "180.000001E", "180.1W", "181W", "999.999999E"},
	} {
		for _, s := range l {
			if a, axis, f := angle.Read(s); a != 0 || axis != 0 || f != e {
				t.Errorf("Read(%q) = %d, %d, %d, want %d", s, a, axis, f, e)
			}
		}
	}
}

// P1.6
func TestWrite(t *testing.T) {
	for _, c := range []struct {
		a, axis int
		s       string
		e       api.Errno
	}{
		{51507400, api.AnNorth, "51.5074N", api.OK},
		{0, api.AnNorth, "0N", api.OK},
		{0, api.AnEast, "0E", api.OK},
		{1, api.AnNorth, "0.000001N", api.OK},
		{-1, api.AnNorth, "0.000001S", api.OK},
		{-1, api.AnEast, "0.000001W", api.OK},
		{100000, api.AnEast, "0.1E", api.OK},
		{-7050000, api.AnEast, "7.05W", api.OK},
		{10 * degree, api.AnNorth, "10N", api.OK},
		{100 * degree, api.AnEast, "100E", api.OK},
		{90 * degree, api.AnNorth, "90N", api.OK},
		{-90 * degree, api.AnNorth, "90S", api.OK},
		{180 * degree, api.AnEast, "180E", api.OK},
		{-180 * degree, api.AnEast, "180W", api.OK},
		{90*degree + 1, api.AnNorth, "", api.ErrRange},
		{-90*degree - 1, api.AnNorth, "", api.ErrRange},
		{180*degree + 1, api.AnEast, "", api.ErrRange},
		{-180*degree - 1, api.AnEast, "", api.ErrRange},
		{math.MaxInt, api.AnEast, "", api.ErrRange},
		{math.MinInt, api.AnNorth, "", api.ErrRange},
		{0, 2, "", api.ErrArg},
		{0, -1, "", api.ErrArg},
		{math.MinInt, math.MaxInt, "", api.ErrArg},
	} {
		if s, e := angle.Write(c.a, c.axis); s != c.s || e != c.e {
			t.Errorf("Write(%d, %d) = %q, %d, want %q, %d", c.a, c.axis, s, e, c.s, c.e)
		}
	}
}

// P1.11
func TestStringsBack(t *testing.T) {
	r := rand.New(rand.NewSource(11))
	powers := []int{1, 10, 100, 1000, 10000, 100000, degree}
	for range 5000 {
		axis := r.Intn(2)
		most := 90 * (axis + 1)
		power := powers[r.Intn(len(powers))]
		a := between(r, -most*(degree/power), most*(degree/power)) * power
		s, e := angle.Write(a, axis)
		if e != api.OK {
			t.Errorf("Write(%d, %d): %d", a, axis, e)
		}
		if b, other, e := angle.Read(s); b != a || other != axis || e != api.OK {
			t.Errorf("Read(%q) = %d, %d, %d, want %d, %d", s, b, other, e, a, axis)
		}
	}
	for _, s := range []string{"007.50S", "000.000000W", "0S", "180.000000E", "089.10N", "1.010E"} {
		a, axis, e := angle.Read(s)
		if e != api.OK {
			t.Errorf("Read(%q): %d", s, e)
		}
		short, e := angle.Write(a, axis)
		if b, other, f := angle.Read(short); b != a || other != axis || e != api.OK || f != api.OK {
			t.Errorf("Read of %q and of %q differ: %d, %d and %d, %d", s, short, a, axis, b, other)
		}
	}
}
