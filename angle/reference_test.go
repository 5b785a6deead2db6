package angle_test

import (
	"math/big"

	"linkboy/angle"
	"linkboy/api"
)

// referenceBits is the precision of the sines to which the package is compared.
const referenceBits = 300

func newFloat(n int) *big.Float { return new(big.Float).SetPrec(referenceBits).SetInt64(int64(n)) }

// tiny reports whether f is nearer to 0 than the reference is exact.
func tiny(f *big.Float) bool { return f.Sign() == 0 || f.MantExp(nil) < -referenceBits/2 }

// arctanOfInverse returns the arc tangent of 1 / n.
func arctanOfInverse(n int) *big.Float {
	sum, power := newFloat(0), new(big.Float).Quo(newFloat(1), newFloat(n))
	for k := 1; !tiny(new(big.Float).SetMantExp(power, referenceBits/2)); k += 2 {
		term := new(big.Float).Quo(power, newFloat(k))
		if k%4 == 1 {
			sum.Add(sum, term)
		} else {
			sum.Sub(sum, term)
		}
		power.Quo(power, newFloat(n*n))
	}
	return sum
}

// pi returns pi, by the formula of Machin.
func pi() *big.Float {
	a := new(big.Float).Mul(newFloat(16), arctanOfInverse(5))
	b := new(big.Float).Mul(newFloat(4), arctanOfInverse(239))
	return a.Sub(a, b)
}

// trueSine returns the least enclosure of the sine of a, by its series and with many bits.
func trueSine(a int) api.Encl {
	r := new(big.Float).Mul(newFloat(a%(360*degree)), pi())
	r.Quo(r, newFloat(180*degree))
	sum, term := newFloat(0), new(big.Float).Set(r)
	for k := 2; !tiny(new(big.Float).SetMantExp(term, referenceBits/4)) || k < 10; k += 2 {
		sum.Add(sum, term)
		term.Mul(term, r)
		term.Mul(term, r)
		term.Quo(term, newFloat(-k*(k+1)))
	}
	return leastEnclosure(sum.Mul(sum, newFloat(one)))
}

// leastEnclosure returns the least enclosure of f; an f that is very near to an integer is meant to be it.
func leastEnclosure(f *big.Float) api.Encl {
	half := new(big.Float).Add(f, big.NewFloat(0.5).SetPrec(referenceBits))
	nearest := floor(half)
	if tiny(new(big.Float).SetMantExp(new(big.Float).Sub(f, newFloat(nearest)), 50)) {
		return encl(nearest, nearest)
	}
	lo := floor(f)
	return encl(lo, lo+1)
}

func floor(f *big.Float) int {
	n, accuracy := f.Int64()
	if accuracy == big.Above { // it was cut towards 0
		n--
	}
	return int(n)
}

// hullOfQuotients returns the least enclosure of all n / d with n of ns and d of ds, times one.
func hullOfQuotients(ns, ds []int, times int) api.Encl {
	var lo, hi *big.Rat
	for _, n := range ns {
		for _, d := range ds {
			q := new(big.Rat).SetFrac(new(big.Int).Mul(big.NewInt(int64(n)), big.NewInt(int64(times))), big.NewInt(int64(d)))
			if lo == nil || q.Cmp(lo) < 0 {
				lo = q
			}
			if hi == nil || q.Cmp(hi) > 0 {
				hi = q
			}
		}
	}
	down := new(big.Int).Div(lo.Num(), lo.Denom()) // of Euclid: downwards, as the denominator is above 0
	up := new(big.Int).Neg(new(big.Int).Div(new(big.Int).Neg(hi.Num()), hi.Denom()))
	return encl(int(down.Int64()), int(up.Int64()))
}

type unary func(api.Encl) (api.Encl, api.Errno)

type binary func(x, y api.Encl) (api.Encl, api.Errno)

var unaries = map[string]unary{"SinOf": angle.SinOf, "CosOf": angle.CosOf, "Arccos": angle.Arccos, "Arcsin": angle.Arcsin, "Root": angle.Root}

var binaries = map[string]binary{"Plus": angle.Plus, "Minus": angle.Minus, "Times": angle.Times, "Over": angle.Over}
