/-
Plain numbers alone: the program's fractions and sines as functions of natural numbers, and their bounds.
-/
import Derived.Laws.BitsAllLaws
import Derived.IntWalk
namespace Go.Proofs.YtnjedigjabijcaaDoor
open Go

/-- 2 ^ 63: the whole. -/
def W63 : Nat := 9223372036854775808
/-- The product of two fractions. -/
def prodN (x y : Nat) : Nat := x * y / 9223372036854775808
/-- The series behind j rounds. -/
def serK (sq last : Nat) : Nat → Nat
  | 0 => 9223372036854775808
  | j + 1 => 9223372036854775808 - prodN sq (serK sq last j) / ((last - 2 * j) * (last - 2 * j - 1))
def radN (a : Nat) : Nat := a * 10803064813898918630 / 67108864
def fracN (a : Nat) : Nat :=
  if 45000000 < a then serK (prodN (radN (90000000 - a)) (radN (90000000 - a))) 20 10
  else prodN (radN a) (serK (prodN (radN a) (radN a)) 21 10)
def hunN (f : Nat) : Nat := f * 100000000 / 9223372036854775808
/-- The enclosure of the sine of an angle from 0 to 90 degrees. -/
def quarter (a : Int) : Int × Int :=
  if a = 0 then (0, 0) else if a = 30000000 then (50000000, 50000000) else if a = 90000000 then (100000000, 100000000)
  else ((hunN (fracN a.toNat) : Int), (hunN (fracN a.toNat) : Int) + 1)
/-- The enclosure of the sine of an angle from 0 to 180 degrees. -/
def halfT (a : Int) : Int × Int := if 90000000 < a then quarter (180000000 - a) else quarter a
def negE (p : Int × Int) : Int × Int := (-p.2, -p.1)
/-- The enclosure of the sine of any angle. -/
def sineE (a : Int) : Int × Int :=
  if 180000000 ≤ a % 360000000 then negE (halfT (a % 360000000 - 180000000)) else halfT (a % 360000000)

theorem prodN_le (x y : Nat) (hx : x ≤ 9223372036854775808) : prodN x y ≤ y := by
  unfold prodN
  calc x * y / 9223372036854775808 ≤ 9223372036854775808 * y / 9223372036854775808 := Nat.div_le_div_right (Nat.mul_le_mul_right _ hx)
    _ = y := Nat.mul_div_cancel_left y (by omega)
theorem prodN_le' (x y : Nat) (hy : y ≤ 9223372036854775808) : prodN x y ≤ x := by
  have := prodN_le y x hy
  unfold prodN at *
  rwa [Nat.mul_comm]
theorem serK_le (sq last j : Nat) : serK sq last j ≤ 9223372036854775808 := by
  cases j with
  | zero => exact Nat.le_refl _
  | succ j => exact Nat.sub_le _ _
theorem radN_le (a : Nat) (h : a ≤ 45000000) : radN a ≤ 7244019458077122843 := by
  unfold radN
  omega
theorem fracN_le (a : Nat) (h : a ≤ 90000000) : fracN a ≤ 9223372036854775808 := by
  unfold fracN
  split
  · exact serK_le _ _ _
  · have h1 := radN_le a (by omega)
    have h2 := prodN_le' (radN a) (serK (prodN (radN a) (radN a)) 21 10) (serK_le _ _ _)
    omega
theorem hunN_le (f : Nat) (h : f ≤ 9223372036854775808) : hunN f ≤ 100000000 := by
  unfold hunN
  omega
theorem quarter_bd (a : Int) (h0 : 0 ≤ a) (h : a ≤ 90000000) : 0 ≤ (quarter a).1 ∧ (quarter a).1 ≤ 100000000 ∧ 0 ≤ (quarter a).2 ∧ (quarter a).2 ≤ 100000001 := by
  unfold quarter
  have := hunN_le _ (fracN_le a.toNat (by omega))
  split
  · simp
  split
  · simp
  split
  · simp
  · simp only; omega
theorem halfT_bd (a : Int) (h0 : 0 ≤ a) (h : a ≤ 180000000) : 0 ≤ (halfT a).1 ∧ (halfT a).1 ≤ 100000000 ∧ 0 ≤ (halfT a).2 ∧ (halfT a).2 ≤ 100000001 := by
  unfold halfT
  split
  · exact quarter_bd _ (by omega) (by omega)
  · exact quarter_bd _ h0 (by omega)
theorem sineE_bd (a : Int) : -100000001 ≤ (sineE a).1 ∧ (sineE a).1 ≤ 100000001 ∧ -100000001 ≤ (sineE a).2 ∧ (sineE a).2 ≤ 100000001 := by
  unfold sineE
  have h1 := Int.emod_nonneg a (show (360000000 : Int) ≠ 0 by decide)
  have h2 := Int.emod_lt_of_pos a (show (0 : Int) < 360000000 by decide)
  split
  · have := halfT_bd (a % 360000000 - 180000000) (by omega) (by omega)
    unfold negE
    simp only
    omega
  · have := halfT_bd (a % 360000000) h1 (by omega)
    omega

/-- Two words that do not meet: 'or' puts them together. -/
theorem or_join (i hi lo : Nat) (hl : lo < 2 ^ i) (h : 2 ^ i * hi + lo < 18446744073709551616) : bits .or .u64 ((2 ^ i * hi : Nat) : Int) (lo : Int) = ((2 ^ i * hi + lo : Nat) : Int) := by
  rw [u64_or_nat _ _ (by omega) (by omega), ← Nat.two_pow_add_eq_or_of_lt hl]
theorem u64_or_prod (x y : Nat) (h : x * y < 170141183460469231731687303715884105728) :
    bits .or .u64 (IntKind.u64.wrap ((x : Int) * y / 18446744073709551616 * 2)) ((x : Int) * y % 18446744073709551616 / 9223372036854775808) = ((prodN x y : Nat) : Int) := by
  unfold prodN
  have e1 : IntKind.u64.wrap ((x : Int) * y / 18446744073709551616 * 2) = ((2 ^ 1 * (x * y / 18446744073709551616) : Nat) : Int) := by
    have e : ((x : Int) * y / 18446744073709551616 * 2) = ((2 ^ 1 * (x * y / 18446744073709551616) : Nat) : Int) := by
      rw [← Int.natCast_mul]; generalize x * y = p; omega
    rw [e]
    refine IntWalk.u64_in _ ?_
    generalize x * y = p at *; omega
  have e2 : ((x : Int) * y % 18446744073709551616 / 9223372036854775808) = ((x * y % 18446744073709551616 / 9223372036854775808 : Nat) : Int) := by
    rw [← Int.natCast_mul]; generalize x * y = p; omega
  rw [e1, e2]
  generalize x * y = p at *
  rw [or_join 1 _ _ (by omega) (by omega)]
  congr 1
  omega
theorem u64_or_rad (x y : Nat) (h : x * y < 1237940039285380274899124224) :
    bits .or .u64 (IntKind.u64.wrap ((x : Int) * y / 18446744073709551616 * 274877906944)) ((x : Int) * y % 18446744073709551616 / 67108864) = ((x * y / 67108864 : Nat) : Int) := by
  have e1 : IntKind.u64.wrap ((x : Int) * y / 18446744073709551616 * 274877906944) = ((2 ^ 38 * (x * y / 18446744073709551616) : Nat) : Int) := by
    have e : ((x : Int) * y / 18446744073709551616 * 274877906944) = ((2 ^ 38 * (x * y / 18446744073709551616) : Nat) : Int) := by
      rw [← Int.natCast_mul]; generalize x * y = p; omega
    rw [e]
    refine IntWalk.u64_in _ ?_
    generalize x * y = p at *; omega
  have e2 : ((x : Int) * y % 18446744073709551616 / 67108864) = ((x * y % 18446744073709551616 / 67108864 : Nat) : Int) := by
    rw [← Int.natCast_mul]; generalize x * y = p; omega
  rw [e1, e2]
  generalize x * y = p at *
  rw [or_join 38 _ _ (by omega) (by omega)]
  congr 1
  omega
theorem u64_or_rad' (x y : Nat) (h : x * y < 1237940039285380274899124224) :
    bits .or .u64 ((x : Int) * y / 18446744073709551616 * 274877906944) ((x : Int) * y % 18446744073709551616 / 67108864) = ((x * y / 67108864 : Nat) : Int) := by
  have e := u64_or_rad x y h
  rwa [IntWalk.u64_in _ (by rw [← Int.natCast_mul]; generalize x * y = p at *; omega)] at e
end Go.Proofs.YtnjedigjabijcaaDoor
