import Derived.Test.YtnjedigjabijcaaDoorCirc1
namespace Go.Proofs.YtnjedigjabijcaaDoor

theorem nn_of {a b : Rat} (hb : 0 < b) (h : 0 ≤ a * b) : 0 ≤ a := by
  by_cases h0 : 0 ≤ a
  · exact h0
  · have := Rat.mul_pos (show 0 < -a by grind) hb
    grind
theorem bil {a b A B : Rat} (h1 : -A ≤ a) (h2 : a ≤ A) (h3 : -B ≤ b) (h4 : b ≤ B) : -(A * B) ≤ a * b ∧ a * b ≤ A * B := by
  have k1 := Rat.mul_nonneg (show 0 ≤ A - a by grind) (show 0 ≤ B + b by grind)
  have k2 := Rat.mul_nonneg (show 0 ≤ A + a by grind) (show 0 ≤ B - b by grind)
  have k3 := Rat.mul_nonneg (show 0 ≤ A - a by grind) (show 0 ≤ B - b by grind)
  have k4 := Rat.mul_nonneg (show 0 ≤ A + a by grind) (show 0 ≤ B + b by grind)
  constructor <;> grind
theorem uu_mul (x : Rat) (k : Nat) : tt 0 x (k + 1) * (rho k + 1) = tt 0 x k * x := by
  have := tt_mul 0 x k
  rw [Rat.mul_zero] at this
  grind
theorem uu_nonneg (x : Rat) (hx : 0 ≤ x) (k : Nat) : 0 ≤ tt 0 x k := by
  induction k with
  | zero => rw [tt_zero]; grind
  | succ k ih =>
    have := rho_nonneg k
    refine nn_of (b := rho k + 1) (by grind) ?_
    rw [uu_mul]
    exact Rat.mul_nonneg ih hx
theorem uu_mono (x X : Rat) (hx : 0 ≤ x) (hX : x ≤ X) (k : Nat) : tt 0 x k ≤ tt 0 X k := by
  induction k with
  | zero => rw [tt_zero, tt_zero]; grind
  | succ k ih =>
    have r := rho_nonneg k
    have a := uu_mul x k
    have b := uu_mul X k
    have c := uu_nonneg x hx k
    have d := Rat.mul_nonneg c (show 0 ≤ X - x by grind)
    have e := Rat.mul_nonneg (show 0 ≤ tt 0 X k - tt 0 x k by grind) (show 0 ≤ X by grind)
    have f := nn_of (a := tt 0 X (k + 1) - tt 0 x (k + 1)) (b := rho k + 1) (by grind) (by grind)
    grind
theorem uu_two (x : Rat) (hx : 0 ≤ x) (h2 : x ≤ 2) (k : Nat) : tt 0 x (k + 1) ≤ 2 := by
  induction k with
  | zero =>
    have := uu_mul x 0
    rw [tt_zero, rho_zero] at this
    grind
  | succ k ih =>
    have r := rho_nonneg k
    have a := uu_mul x (k + 1)
    rw [rho_succ] at a
    have c := uu_nonneg x hx (k + 1)
    have d := Rat.mul_nonneg c (show 0 ≤ 2 - x by grind)
    have d2 := Rat.mul_nonneg c r
    have f := nn_of (a := tt 0 x (k + 1) - tt 0 x (k + 1 + 1)) (b := rho k + 1 + 1) (by grind) (by grind)
    grind
theorem uu_two' (x : Rat) (hx : 0 ≤ x) (h2 : x ≤ 2) (k : Nat) : tt 0 x k ≤ 2 := by
  cases k with
  | zero => rw [tt_zero]; grind
  | succ k => exact uu_two x hx h2 k
theorem tt_le (h : Rat) (hh : 0 ≤ h) (n k : Nat) : tt h (rho n * h) k ≤ tt 0 (rho n * h) k := by
  induction k with
  | zero => rw [tt_zero, tt_zero]; grind
  | succ k ih =>
    have x0 : 0 ≤ rho n * h := Rat.mul_nonneg (rho_nonneg n) hh
    have r := rho_nonneg k
    have a := tt_mul h (rho n * h) k
    have b := uu_mul (rho n * h) k
    have c := tt_nonneg h hh n k
    generalize rho n * h = x at *
    have d := Rat.mul_nonneg c (Rat.mul_nonneg r hh)
    have e := Rat.mul_nonneg (show 0 ≤ tt 0 x k - tt h x k by grind) x0
    have f := nn_of (a := tt 0 x (k + 1) - tt h x (k + 1)) (b := rho k + 1) (by grind) (by grind)
    grind
theorem tt_off (h : Rat) (hh : 0 ≤ h) (n : Nat) (h2 : rho n * h ≤ 2) (k : Nat) : tt 0 (rho n * h) k - tt h (rho n * h) k ≤ 4 * (rho k * h) := by
  induction k with
  | zero => rw [tt_zero, tt_zero, rho_zero]; grind
  | succ k ih =>
    have x0 : 0 ≤ rho n * h := Rat.mul_nonneg (rho_nonneg n) hh
    have r := rho_nonneg k
    have a := tt_mul h (rho n * h) k
    have b := uu_mul (rho n * h) k
    have c := tt_le h hh n k
    have c1 := tt_le h hh n (k + 1)
    have t2 := uu_two' (rho n * h) x0 h2 k
    generalize rho n * h = x at *
    have d := Rat.mul_nonneg (show 0 ≤ 2 - tt h x k by grind) (Rat.mul_nonneg r hh)
    have e := Rat.mul_nonneg (show 0 ≤ 2 - x by grind) (show 0 ≤ tt 0 x k - tt h x k by grind)
    have g := Rat.mul_nonneg hh (Rat.mul_nonneg r r)
    have g2 := Rat.mul_nonneg hh (Rat.mul_nonneg (show 0 ≤ (rho k - 1) * (rho k - 1) by
      by_cases q : 0 ≤ rho k - 1
      · exact Rat.mul_nonneg q q
      · have := Rat.mul_nonneg (show 0 ≤ -(rho k - 1) by grind) (show 0 ≤ -(rho k - 1) by grind); grind) (show (0 : Rat) ≤ 1 by grind))
    rw [rho_succ]
    have f := nn_of (a := 4 * ((rho k + 1) * h) - (tt 0 x (k + 1) - tt h x (k + 1))) (b := rho k + 1) (by grind) (by grind)
    grind
theorem pp_off (h : Rat) (hh : 0 ≤ h) (n : Nat) (h2 : rho n * h ≤ 2) (N : Nat) :
    ∃ e1 e2 : Rat, (pp h (rho n * h) N).1 = (pp 0 (rho n * h) N).1 + e1 ∧ (pp h (rho n * h) N).2 = (pp 0 (rho n * h) N).2 + e2 ∧
      -(4 * (rho N * rho N * h)) ≤ e1 + e2 ∧ e1 + e2 ≤ 4 * (rho N * rho N * h) ∧ -(4 * (rho N * rho N * h)) ≤ e1 - e2 ∧ e1 - e2 ≤ 4 * (rho N * rho N * h) := by
  induction N with
  | zero => exact ⟨0, 0, by show (1 : Rat) = 1 + 0; grind, by show (0 : Rat) = 0 + 0; grind, by rw [rho_zero]; grind, by rw [rho_zero]; grind, by rw [rho_zero]; grind, by rw [rho_zero]; grind⟩
  | succ N ih =>
    obtain ⟨e1, e2, h1, h3, l1, u1, l2, u2⟩ := ih
    have d0 := tt_le h hh n (N + 1)
    have d1 := tt_off h hh n h2 (N + 1)
    have r := rho_nonneg N
    obtain ⟨c1, c2⟩ := ci_one (N + 1)
    have rh := Rat.mul_nonneg r hh
    rw [pp_succ, pp_succ, h1, h3]
    rw [rho_succ] at d1 ⊢
    refine ⟨e1 - (ci (N + 1)).1 * (tt 0 (rho n * h) (N + 1) - tt h (rho n * h) (N + 1)), e2 - (ci (N + 1)).2 * (tt 0 (rho n * h) (N + 1) - tt h (rho n * h) (N + 1)), by simp only; grind, by simp only; grind, ?_⟩
    have d2 : 0 ≤ tt 0 (rho n * h) (N + 1) - tt h (rho n * h) (N + 1) := by grind
    clear d0
    generalize tt 0 (rho n * h) (N + 1) - tt h (rho n * h) (N + 1) = D at *
    generalize (ci (N + 1)).1 = a at *
    generalize (ci (N + 1)).2 = b at *
    have x1 : (a - b) * D = D ∨ (a - b) * D = -D := by rcases c1 with c | c <;> rw [c] <;> grind
    have x2 : (a + b) * D = D ∨ (a + b) * D = -D := by rcases c2 with c | c <;> rw [c] <;> grind
    have z1 : e1 - a * D + (e2 - b * D) = (e1 + e2) - (a + b) * D := by grind
    have z2 : e1 - a * D - (e2 - b * D) = (e1 - e2) - (a - b) * D := by grind
    rw [z1, z2]
    generalize (a - b) * D = P at *
    generalize (a + b) * D = Q at *
    have y : (rho N + 1) * (rho N + 1) * h = rho N * rho N * h + 2 * (rho N * h) + h := by grind
    rw [y]
    refine ⟨?_, ?_, ?_, ?_⟩ <;> grind
/-- How far the powers are from the polynomials. -/
theorem near_poly (h : Rat) (hh : 0 ≤ h) (N n : Nat) (h2 : rho n * h ≤ 2) (B : Rat) (hB : ww h n * tt 0 (rho n * h) (N + 1) + 4 * (rho N * rho N * h) ≤ B) :
    -B ≤ (zz h n).1 - (pp 0 (rho n * h) N).1 ∧ (zz h n).1 - (pp 0 (rho n * h) N).1 ≤ B ∧ -B ≤ (zz h n).2 - (pp 0 (rho n * h) N).2 ∧ (zz h n).2 - (pp 0 (rho n * h) N).2 ≤ B := by
  obtain ⟨e1, e2, a1, a2, a3, a4, a5, a6⟩ := near_sum h hh N n
  obtain ⟨f1, f2, b1, b2, b3, b4, b5, b6⟩ := pp_off h hh n h2 N
  have t := Rat.mul_nonneg (show 0 ≤ ww h n by have := ww_one h hh n; grind) (show 0 ≤ tt 0 (rho n * h) (N + 1) - tt h (rho n * h) (N + 1) by have := tt_le h hh n (N + 1); grind)
  rw [a1, a2, b1, b2]
  generalize ww h n = w at *
  generalize tt 0 (rho n * h) (N + 1) = U at *
  generalize tt h (rho n * h) (N + 1) = T at *
  generalize 4 * (rho N * rho N * h) = V at *
  generalize (pp 0 (rho n * h) N).1 = p at *
  generalize (pp 0 (rho n * h) N).2 = q at *
  refine ⟨?_, ?_, ?_, ?_⟩ <;> grind
end Go.Proofs.YtnjedigjabijcaaDoor
