import Derived.Test.YtnjedigjabijcaaDoorCirc2
import Derived.Test.YtnjedigjabijcaaDoorMono
namespace Go.Proofs.YtnjedigjabijcaaDoor

theorem rho_lt {m n : Nat} (h : m < n) : rho m + 1 ≤ rho n := by
  rw [← rho_succ]
  exact rho_le h
theorem rho_div (n d : Nat) (hd : 0 < d) : rho (n / d) * rho d ≤ rho n ∧ rho n < (rho (n / d) + 1) * rho d := by
  constructor
  · rw [← rho_mul]
    exact rho_le (Nat.div_mul_le_self n d)
  · have a := rho_lt (show n < (n / d + 1) * d by rw [Nat.add_mul, Nat.one_mul]; exact Nat.lt_div_mul_add hd)
    rw [rho_mul, rho_succ] at a
    grind
theorem rho_sub {m n : Nat} (h : m ≤ n) : rho (n - m) = rho n - rho m := by
  have := rho_add (n - m) m
  rw [Nat.sub_add_cancel h] at this
  grind
/-- The Horner form of the series. -/
def hr (q : Rat) (last : Nat) : Nat → Rat
  | 0 => 1
  | j + 1 => 1 - q * hr q last j / rho ((last - 2 * j) * (last - 2 * j - 1))
theorem hr_succ (q : Rat) (last j : Nat) : hr q last (j + 1) = 1 - q * hr q last j / rho ((last - 2 * j) * (last - 2 * j - 1)) := rfl
/-- A product of fractions, in units of e. -/
theorem prod_near (x y : Nat) (e : Rat) (he : 0 < e) (hW : rho 9223372036854775808 * e = 1) :
    rho (prodN x y) * e ≤ (rho x * e) * (rho y * e) ∧ (rho x * e) * (rho y * e) < rho (prodN x y) * e + e := by
  obtain ⟨a, b⟩ := rho_div (x * y) 9223372036854775808 (by omega)
  rw [rho_mul x y] at a b
  show rho (x * y / 9223372036854775808) * e ≤ _ ∧ _ < rho (x * y / 9223372036854775808) * e + e
  generalize rho (x * y / 9223372036854775808) = P at *
  generalize rho 9223372036854775808 = W at *
  generalize rho x = X at *
  generalize rho y = Y at *
  have e2 := Rat.mul_pos he he
  have k1 := Rat.mul_nonneg (show 0 ≤ X * Y - P * W by grind) (show 0 ≤ e * e by grind)
  have k2 := Rat.mul_pos (show 0 < (P + 1) * W - X * Y by grind) e2
  have w1 : P * W * (e * e) = P * e * (W * e) := by grind
  have w2 : (P + 1) * W * (e * e) = (P * e + e) * (W * e) := by grind
  rw [hW] at w1 w2
  constructor <;> grind
theorem ser_le1 (sq last j : Nat) (e : Rat) (he : 0 < e) (hW : rho 9223372036854775808 * e = 1) : 0 ≤ rho (serK sq last j) * e ∧ rho (serK sq last j) * e ≤ 1 := by
  have a := rho_nonneg (serK sq last j)
  have b := rho_le (serK_le sq last j)
  have c := Rat.mul_nonneg a (show 0 ≤ e by grind)
  have d := Rat.mul_nonneg (show 0 ≤ rho 9223372036854775808 - rho (serK sq last j) by grind) (show 0 ≤ e by grind)
  constructor <;> grind
theorem ser_near (sq last : Nat) (q e : Rat) (he : 0 < e) (hW : rho 9223372036854775808 * e = 1) (hq0 : 0 ≤ q) (hq : 25 * q ≤ 16)
    (hsq : sq ≤ 9223372036854775808) (hu1 : -(33 * e) ≤ 10 * (rho sq * e - q)) (hu2 : 10 * (rho sq * e - q) ≤ 33 * e) :
    ∀ j : Nat, 2 * j ≤ last → -(5 * e) ≤ rho (serK sq last j) * e - hr q last j ∧ rho (serK sq last j) * e - hr q last j ≤ 5 * e
  | 0, _ => by
    rw [show serK sq last 0 = 9223372036854775808 from rfl, show hr q last 0 = 1 from rfl, hW]
    constructor <;> grind
  | j + 1, hj => by
    obtain ⟨i1, i2⟩ := ser_near sq last q e he hW hq0 hq hsq hu1 hu2 j (by omega)
    obtain ⟨s0, s1⟩ := ser_le1 sq last j e he hW
    have c2 := coef_ge (last - 2 * j) (by omega)
    rw [hr_succ, show serK sq last (j + 1) = 9223372036854775808 - prodN sq (serK sq last j) / ((last - 2 * j) * (last - 2 * j - 1)) from rfl]
    have pl := prodN_le sq (serK sq last j) hsq
    have sl := serK_le sq last j
    obtain ⟨p1, p2⟩ := prod_near sq (serK sq last j) e he hW
    generalize prodN sq (serK sq last j) = p at *
    generalize (last - 2 * j) * (last - 2 * j - 1) = c at *
    obtain ⟨d1, d2⟩ := rho_div p c (by omega)
    rw [rho_sub (Nat.le_trans (Nat.div_le_self _ _) (Nat.le_trans pl sl))]
    have C2 := rho_le c2
    rw [show rho 2 = 2 by rw [rho_cast]; rfl] at C2
    generalize rho (p / c) = N at *
    generalize rho c = C at *
    generalize rho p = P at *
    generalize rho (serK sq last j) * e = s at *
    generalize rho sq * e = u at *
    generalize hr q last j = h at *
    generalize hv : q * h / C = v at *
    have cn : C ≠ 0 := by grind
    have vC : v * C = q * h := by rw [← hv]; grind
    have b1 := bil (a := u - q) (b := s) (A := 33 / 10 * e) (B := 1) (by grind) (by grind) (by grind) (by grind)
    have b2 := bil (a := q) (b := s - h) (A := 16 / 25) (B := 5 * e) (by grind) (by grind) (by grind) (by grind)
    have k1 := Rat.mul_nonneg (show 0 ≤ P - N * C by grind) (show 0 ≤ e by grind)
    have k2 := Rat.mul_pos (show 0 < (N + 1) * C - P by grind) he
    have k3 := Rat.mul_nonneg (show 0 ≤ C - 2 by grind) (show 0 ≤ e by grind)
    have g : (rho 9223372036854775808 - N) * e = 1 - N * e := by grind
    rw [g]
    constructor
    · have f := nn_of (a := 1 - N * e - (1 - v) + 5 * e) (b := C) (by grind) (by grind)
      grind
    · have f := nn_of (a := 5 * e - (1 - N * e - (1 - v))) (b := C) (by grind) (by grind)
      grind
theorem uu_1 (x : Rat) : tt 0 x 1 = x ^ 1 / 1 := by
  have := uu_mul x 0
  rw [tt_zero, show rho 0 = 0 by rw [rho_cast]; rfl] at this
  grind
theorem uu_2 (x : Rat) : tt 0 x 2 = x ^ 2 / 2 := by
  have := uu_mul x 1
  rw [uu_1, show rho 1 = 1 by rw [rho_cast]; rfl] at this
  grind
theorem uu_3 (x : Rat) : tt 0 x 3 = x ^ 3 / 6 := by
  have := uu_mul x 2
  rw [uu_2, show rho 2 = 2 by rw [rho_cast]; rfl] at this
  grind
theorem uu_4 (x : Rat) : tt 0 x 4 = x ^ 4 / 24 := by
  have := uu_mul x 3
  rw [uu_3, show rho 3 = 3 by rw [rho_cast]; rfl] at this
  grind
theorem uu_5 (x : Rat) : tt 0 x 5 = x ^ 5 / 120 := by
  have := uu_mul x 4
  rw [uu_4, show rho 4 = 4 by rw [rho_cast]; rfl] at this
  grind
theorem uu_6 (x : Rat) : tt 0 x 6 = x ^ 6 / 720 := by
  have := uu_mul x 5
  rw [uu_5, show rho 5 = 5 by rw [rho_cast]; rfl] at this
  grind
theorem uu_7 (x : Rat) : tt 0 x 7 = x ^ 7 / 5040 := by
  have := uu_mul x 6
  rw [uu_6, show rho 6 = 6 by rw [rho_cast]; rfl] at this
  grind
theorem uu_8 (x : Rat) : tt 0 x 8 = x ^ 8 / 40320 := by
  have := uu_mul x 7
  rw [uu_7, show rho 7 = 7 by rw [rho_cast]; rfl] at this
  grind
theorem uu_9 (x : Rat) : tt 0 x 9 = x ^ 9 / 362880 := by
  have := uu_mul x 8
  rw [uu_8, show rho 8 = 8 by rw [rho_cast]; rfl] at this
  grind
theorem uu_10 (x : Rat) : tt 0 x 10 = x ^ 10 / 3628800 := by
  have := uu_mul x 9
  rw [uu_9, show rho 9 = 9 by rw [rho_cast]; rfl] at this
  grind
theorem uu_11 (x : Rat) : tt 0 x 11 = x ^ 11 / 39916800 := by
  have := uu_mul x 10
  rw [uu_10, show rho 10 = 10 by rw [rho_cast]; rfl] at this
  grind
theorem uu_12 (x : Rat) : tt 0 x 12 = x ^ 12 / 479001600 := by
  have := uu_mul x 11
  rw [uu_11, show rho 11 = 11 by rw [rho_cast]; rfl] at this
  grind
theorem uu_13 (x : Rat) : tt 0 x 13 = x ^ 13 / 6227020800 := by
  have := uu_mul x 12
  rw [uu_12, show rho 12 = 12 by rw [rho_cast]; rfl] at this
  grind
theorem uu_14 (x : Rat) : tt 0 x 14 = x ^ 14 / 87178291200 := by
  have := uu_mul x 13
  rw [uu_13, show rho 13 = 13 by rw [rho_cast]; rfl] at this
  grind
theorem uu_15 (x : Rat) : tt 0 x 15 = x ^ 15 / 1307674368000 := by
  have := uu_mul x 14
  rw [uu_14, show rho 14 = 14 by rw [rho_cast]; rfl] at this
  grind
theorem uu_16 (x : Rat) : tt 0 x 16 = x ^ 16 / 20922789888000 := by
  have := uu_mul x 15
  rw [uu_15, show rho 15 = 15 by rw [rho_cast]; rfl] at this
  grind
theorem uu_17 (x : Rat) : tt 0 x 17 = x ^ 17 / 355687428096000 := by
  have := uu_mul x 16
  rw [uu_16, show rho 16 = 16 by rw [rho_cast]; rfl] at this
  grind
theorem uu_18 (x : Rat) : tt 0 x 18 = x ^ 18 / 6402373705728000 := by
  have := uu_mul x 17
  rw [uu_17, show rho 17 = 17 by rw [rho_cast]; rfl] at this
  grind
theorem uu_19 (x : Rat) : tt 0 x 19 = x ^ 19 / 121645100408832000 := by
  have := uu_mul x 18
  rw [uu_18, show rho 18 = 18 by rw [rho_cast]; rfl] at this
  grind
theorem uu_20 (x : Rat) : tt 0 x 20 = x ^ 20 / 2432902008176640000 := by
  have := uu_mul x 19
  rw [uu_19, show rho 19 = 19 by rw [rho_cast]; rfl] at this
  grind
theorem uu_21 (x : Rat) : tt 0 x 21 = x ^ 21 / 51090942171709440000 := by
  have := uu_mul x 20
  rw [uu_20, show rho 20 = 20 by rw [rho_cast]; rfl] at this
  grind
theorem pp_cos (x : Rat) : (pp 0 x 21).1 = hr (x * x) 20 10 := by
  have r : ∀ n : Nat, rho n = (n : Rat) := rho_cast
  have e1 : (pp 0 x 21).1 = 1 - tt 0 x 2 + tt 0 x 4 - tt 0 x 6 + tt 0 x 8 - tt 0 x 10 + tt 0 x 12 - tt 0 x 14 + tt 0 x 16 - tt 0 x 18 + tt 0 x 20 := by
    simp only [pp, ci]
    grind
  have e2 : hr (x * x) 20 10 = (1 - x * x * (1 - x * x * (1 - x * x * (1 - x * x * (1 - x * x * (1 - x * x * (1 - x * x * (1 - x * x * (1 - x * x * (1 - x * x * 1 / 380) / 306) / 240) / 182) / 132) / 90) / 56) / 30) / 12) / 2) := by
    simp only [hr, r]
    grind
  rw [e1, e2, uu_2, uu_4, uu_6, uu_8, uu_10, uu_12, uu_14, uu_16, uu_18, uu_20]
  grind
theorem pp_sin (x : Rat) : (pp 0 x 21).2 = x * hr (x * x) 21 10 := by
  have r : ∀ n : Nat, rho n = (n : Rat) := rho_cast
  have e1 : (pp 0 x 21).2 = tt 0 x 1 - tt 0 x 3 + tt 0 x 5 - tt 0 x 7 + tt 0 x 9 - tt 0 x 11 + tt 0 x 13 - tt 0 x 15 + tt 0 x 17 - tt 0 x 19 + tt 0 x 21 := by
    simp only [pp, ci]
    grind
  have e2 : hr (x * x) 21 10 = (1 - x * x * (1 - x * x * (1 - x * x * (1 - x * x * (1 - x * x * (1 - x * x * (1 - x * x * (1 - x * x * (1 - x * x * (1 - x * x * 1 / 420) / 342) / 272) / 210) / 156) / 110) / 72) / 42) / 20) / 6) := by
    simp only [hr, r]
    grind
  rw [e1, e2, uu_1, uu_3, uu_5, uu_7, uu_9, uu_11, uu_13, uu_15, uu_17, uu_19, uu_21]
  grind
end Go.Proofs.YtnjedigjabijcaaDoor
