import Derived.Test.YtnjedigjabijcaaGreatDoorOver
namespace Go.Proofs.YtnjedigjabijcaaGreatDoor
open Go Go.RowKit

def plusE (x y : Int × Int) : (Int × Int) × Int := if inB x.1 x.2 (-3000000000) 3000000000 && inB y.1 y.2 (-3000000000) 3000000000 then checkedE (x.1 + y.1, x.2 + y.2) else ((0, 0), 7)
def minusE (x y : Int × Int) : (Int × Int) × Int := if inB x.1 x.2 (-3000000000) 3000000000 && inB y.1 y.2 (-3000000000) 3000000000 then checkedE (x.1 - y.2, x.2 - y.1) else ((0, 0), 7)
theorem plusE_x {x y : Int × Int} (h : inB x.1 x.2 (-3000000000) 3000000000 = false) : plusE x y = ((0, 0), 7) := by unfold plusE; rw [h]; rfl
theorem plusE_y {x y : Int × Int} (h : inB y.1 y.2 (-3000000000) 3000000000 = false) : plusE x y = ((0, 0), 7) := by unfold plusE; rw [h, Bool.and_false]; rfl
theorem plusE_ok {x y : Int × Int} (h : inB x.1 x.2 (-3000000000) 3000000000 = true) (h' : inB y.1 y.2 (-3000000000) 3000000000 = true) : plusE x y = checkedE (x.1 + y.1, x.2 + y.2) := by unfold plusE; rw [h, h']; rfl
theorem minusE_no {x y : Int × Int} (h : (inB x.1 x.2 (-3000000000) 3000000000 && inB y.1 y.2 (-3000000000) 3000000000) = false) : minusE x y = ((0, 0), 7) := by unfold minusE; rw [h]; rfl
theorem minusE_ok {x y : Int × Int} (h : inB x.1 x.2 (-3000000000) 3000000000 = true) (h' : inB y.1 y.2 (-3000000000) 3000000000 = true) : minusE x y = checkedE (x.1 - y.2, x.2 - y.1) := by unfold minusE; rw [h, h']; rfl
theorem plusE_no {x y : Int × Int} (h : (inB x.1 x.2 (-3000000000) 3000000000 && inB y.1 y.2 (-3000000000) 3000000000) = false) : plusE x y = ((0, 0), 7) := by unfold plusE; rw [h]; rfl
theorem timesE_no {x y : Int × Int} (h : (inB x.1 x.2 (-3000000000) 3000000000 && inB y.1 y.2 (-3000000000) 3000000000) = false) : timesE x y = ((0, 0), 7) := by unfold timesE; rw [h]; rfl
theorem overE_no {x y : Int × Int} (h : (inB x.1 x.2 (-3000000000) 3000000000 && inB y.1 y.2 (-3000000000) 3000000000) = false) : overE x y = ((0, 0), 7) := by unfold overE; rw [h]; rfl

/-- A number turned round, as 64 bits have it. -/
def negW (a : Int) : Int := IntKind.i64.wrap (-a)
theorem inB_eq (lo hi a b : Int) : inB lo hi a b = decide (a ≤ lo ∧ lo ≤ hi ∧ hi ≤ b) := by
  unfold inB
  rw [Bool.eq_iff_iff]
  simp only [Bool.and_eq_true, decide_eq_true_eq, and_assoc]
theorem wrap_neg (a : Int) (h0 : -9223372036854775808 ≤ a) (h1 : a ≤ 9223372036854775807) : negW a = -a ∨ (a = -9223372036854775808 ∧ negW a = a) := by
  by_cases h : a = -9223372036854775808
  · refine .inr ⟨h, ?_⟩
    subst h
    decide
  · exact .inl (IntWalk.i64_in _ (by omega))
theorem negW_in (y : Int × Int) (h0 : -9223372036854775808 ≤ y.1) (h1 : y.1 ≤ 9223372036854775807) (h2 : -9223372036854775808 ≤ y.2) (h3 : y.2 ≤ 9223372036854775807) :
    inB (negW y.2) (negW y.1) (-3000000000) 3000000000 = inB y.1 y.2 (-3000000000) 3000000000 := by
  rw [inB_eq, inB_eq, decide_eq_decide]
  have e1 := wrap_neg y.1 h0 h1
  have e2 := wrap_neg y.2 h2 h3
  omega
theorem plus_neg (x y : Int × Int) (h0 : -9223372036854775808 ≤ y.1) (h1 : y.1 ≤ 9223372036854775807) (h2 : -9223372036854775808 ≤ y.2) (h3 : y.2 ≤ 9223372036854775807) :
    plusE x (negW y.2, negW y.1) = minusE x y := by
  have e1 := wrap_neg y.1 h0 h1
  have e2 := wrap_neg y.2 h2 h3
  unfold plusE minusE
  simp only
  rw [negW_in y h0 h1 h2 h3]
  cases hy : inB y.1 y.2 (-3000000000) 3000000000
  · simp
  · obtain ⟨i1, i2, i3⟩ := inB_yes hy
    have n1 : negW y.1 = -y.1 := by omega
    have n2 : negW y.2 = -y.2 := by omega
    rw [n1, n2]
    rfl

/-- The enclosure of a fraction whose denominator is above 0. -/
def quoP (n d : Int) : Int × Int := (n / d, -((-n) / d))
def leastE (n d : Int × Int × Int × Int) : Int × Int := hullL (quoP n.1 d.1) [quoP n.2.1 d.2.1, quoP n.2.2.1 d.2.2.1, quoP n.2.2.2 d.2.2.2]
theorem least_times (x y : Int × Int) : leastE (x.1 * y.1, x.1 * y.2, x.2 * y.1, x.2 * y.2) (100000000, 100000000, 100000000, 100000000) = cornE timesQ x y := by
  unfold leastE cornE timesQ
  rw [quo_pos _ _ (by omega), quo_pos _ _ (by omega), quo_pos _ _ (by omega), quo_pos _ _ (by omega)]
  rfl
theorem least_over_pos (x y : Int × Int) (h : y.1 ≤ y.2) (hp : 0 < y.1) : leastE (x.1 * 100000000, x.1 * 100000000, x.2 * 100000000, x.2 * 100000000) (y.1, y.2, y.1, y.2) = cornE overQ x y := by
  unfold leastE cornE overQ
  rw [quo_pos _ _ (by omega), quo_pos _ _ (by omega), quo_pos _ _ (by omega), quo_pos _ _ (by omega)]
  rfl
theorem hull_rev (a b c d : Int × Int) : hullL a [b, c, d] = hullL d [c, b, a] := by
  simp only [hullL, List.foldl, hullS, Prod.mk.injEq]
  omega
theorem least_over_neg (x y : Int × Int) (h : y.1 ≤ y.2) (hn : y.2 < 0) : leastE (-x.2 * 100000000, -x.2 * 100000000, -x.1 * 100000000, -x.1 * 100000000) (-y.2, -y.1, -y.2, -y.1) = cornE overQ x y := by
  unfold leastE cornE overQ
  rw [quo_neg _ _ (by omega), quo_neg _ _ (by omega), quo_neg _ _ (by omega), quo_neg _ _ (by omega)]
  rw [hull_rev]
  simp only [quoP, Int.neg_mul]
end Go.Proofs.YtnjedigjabijcaaGreatDoor
