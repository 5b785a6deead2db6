import Derived.Test.YtnjedigjabijcaaDoorPlain
namespace Go.Proofs.YtnjedigjabijcaaDoor

/-- A count, as a fraction. -/
def rho (n : Nat) : Rat := (n : Rat)
theorem rho_zero : rho 0 = 0 := rfl
theorem rho_succ (n : Nat) : rho (n + 1) = rho n + 1 := by
  unfold rho
  push_cast
  rfl
theorem rho_nonneg (n : Nat) : 0 ≤ rho n := by
  induction n with
  | zero => rw [rho_zero]; grind
  | succ n ih => rw [rho_succ]; grind
theorem rho_add (m n : Nat) : rho (m + n) = rho m + rho n := by
  induction n with
  | zero => rw [Nat.add_zero, rho_zero]; grind
  | succ n ih => rw [← Nat.add_assoc, rho_succ, rho_succ, ih]; grind
theorem rho_mul (m n : Nat) : rho (m * n) = rho m * rho n := by
  induction n with
  | zero => rw [Nat.mul_zero, rho_zero]; grind
  | succ n ih => rw [Nat.mul_succ, rho_add, rho_succ, ih]; grind
theorem rho_le {m n : Nat} (h : m ≤ n) : rho m ≤ rho n := by
  obtain ⟨k, rfl⟩ := Nat.exists_eq_add_of_le h
  rw [rho_add]
  have := rho_nonneg k
  grind
theorem rho_cast (n : Nat) : rho n = (n : Rat) := rfl

/-- x (x - h) .. (x - (k - 1) h) / k! -/
def tt (h x : Rat) : Nat → Rat
  | 0 => 1
  | k + 1 => tt h x k * (x - rho k * h) / (rho k + 1)
theorem tt_zero (h x : Rat) : tt h x 0 = 1 := rfl
theorem tt_succ (h x : Rat) (k : Nat) : tt h x (k + 1) = tt h x k * (x - rho k * h) / (rho k + 1) := rfl
theorem tt_mul (h x : Rat) (k : Nat) : tt h x (k + 1) * (rho k + 1) = tt h x k * (x - rho k * h) := by
  have := rho_nonneg k
  rw [tt_succ]
  have h1 : rho k + 1 ≠ 0 := by grind
  grind
theorem tt_step (h x : Rat) (k : Nat) : tt h (x + h) (k + 1) = tt h x (k + 1) + h * tt h x k := by
  induction k with
  | zero =>
    have a := tt_mul h x 0
    have b := tt_mul h (x + h) 0
    rw [tt_zero, rho_zero] at a b
    rw [tt_zero]
    grind
  | succ k ih =>
    have a := tt_mul h x (k + 1)
    have b := tt_mul h (x + h) (k + 1)
    have c := tt_mul h x k
    rw [ih] at b
    rw [rho_succ] at a b
    have n := rho_nonneg k
    have n1 : rho k + 1 + 1 ≠ 0 := by grind
    generalize tt h (x + h) (k + 1 + 1) = A at *
    generalize tt h x (k + 1 + 1) = B at *
    generalize tt h x (k + 1) = C at *
    generalize tt h x k = D at *
    generalize rho k = r at *
    have e : A * (r + 1 + 1) = (B + h * C) * (r + 1 + 1) := by grind
    grind
theorem tt_at0 (h : Rat) (k : Nat) : tt h 0 (k + 1) = 0 := by
  induction k with
  | zero => rw [tt_succ, rho_zero]; grind
  | succ k ih => rw [tt_succ, ih]; grind
theorem tt_nonneg (h : Rat) (hh : 0 ≤ h) (n : Nat) : ∀ k : Nat, 0 ≤ tt h (rho n * h) k := by
  induction n with
  | zero =>
    intro k
    rw [rho_zero, Rat.zero_mul]
    cases k with
    | zero => rw [tt_zero]; grind
    | succ k => rw [tt_at0]; grind
  | succ n ih =>
    intro k
    cases k with
    | zero => rw [tt_zero]; grind
    | succ k =>
      rw [rho_succ, show (rho n + 1) * h = rho n * h + h by grind, tt_step]
      have a := ih (k + 1)
      have b := Rat.mul_nonneg hh (ih k)
      grind

/-- The powers of i. -/
def ci : Nat → Rat × Rat
  | 0 => (1, 0)
  | k + 1 => (-(ci k).2, (ci k).1)
theorem ci_succ (k : Nat) : ci (k + 1) = (-(ci k).2, (ci k).1) := rfl
theorem ci_one (k : Nat) : ((ci k).1 - (ci k).2 = 1 ∨ (ci k).1 - (ci k).2 = -1) ∧ ((ci k).1 + (ci k).2 = 1 ∨ (ci k).1 + (ci k).2 = -1) := by
  induction k with
  | zero => exact ⟨Or.inl (by show (1 : Rat) - 0 = 1; grind), Or.inl (by show (1 : Rat) + 0 = 1; grind)⟩
  | succ k ih =>
    rw [ci_succ]
    grind
def pp (h x : Rat) : Nat → Rat × Rat
  | 0 => (1, 0)
  | k + 1 => ((pp h x k).1 + (ci (k + 1)).1 * tt h x (k + 1), (pp h x k).2 + (ci (k + 1)).2 * tt h x (k + 1))
theorem pp_succ (h x : Rat) (k : Nat) : pp h x (k + 1) = ((pp h x k).1 + (ci (k + 1)).1 * tt h x (k + 1), (pp h x k).2 + (ci (k + 1)).2 * tt h x (k + 1)) := rfl
theorem pp_step (h x : Rat) (n : Nat) : (pp h (x + h) n).1 = (pp h x n).1 - h * ((pp h x n).2 - (ci n).2 * tt h x n) ∧
    (pp h (x + h) n).2 = (pp h x n).2 + h * ((pp h x n).1 - (ci n).1 * tt h x n) := by
  induction n with
  | zero => rw [tt_zero]; exact ⟨by show (1 : Rat) = 1 - h * (0 - 0 * 1); grind, by show (0 : Rat) = 0 + h * (1 - 1 * 1); grind⟩
  | succ n ih =>
    obtain ⟨a, b⟩ := ih
    rw [pp_succ, pp_succ, tt_step, ci_succ]
    simp only
    grind
/-- The powers of 1 + i h. -/
def zz (h : Rat) : Nat → Rat × Rat
  | 0 => (1, 0)
  | n + 1 => ((zz h n).1 - h * (zz h n).2, (zz h n).2 + h * (zz h n).1)
theorem zz_succ (h : Rat) (n : Nat) : zz h (n + 1) = ((zz h n).1 - h * (zz h n).2, (zz h n).2 + h * (zz h n).1) := rfl
theorem zz_add (h : Rat) (m n : Nat) : (zz h (m + n)).1 = (zz h m).1 * (zz h n).1 - (zz h m).2 * (zz h n).2 ∧ (zz h (m + n)).2 = (zz h m).1 * (zz h n).2 + (zz h m).2 * (zz h n).1 := by
  induction n with
  | zero => exact ⟨by show (zz h m).1 = (zz h m).1 * 1 - (zz h m).2 * 0; grind, by show (zz h m).2 = (zz h m).1 * 0 + (zz h m).2 * 1; grind⟩
  | succ n ih =>
    obtain ⟨a, b⟩ := ih
    rw [← Nat.add_assoc, zz_succ, zz_succ]
    simp only
    grind
/-- (1 + h) ^ n -/
def ww (h : Rat) : Nat → Rat
  | 0 => 1
  | n + 1 => (1 + h) * ww h n
theorem ww_succ (h : Rat) (n : Nat) : ww h (n + 1) = (1 + h) * ww h n := rfl
theorem ww_one (h : Rat) (hh : 0 ≤ h) (n : Nat) : 1 ≤ ww h n := by
  induction n with
  | zero => show (1 : Rat) ≤ 1; grind
  | succ n ih =>
    rw [ww_succ]
    have := Rat.mul_nonneg hh (show 0 ≤ ww h n by grind)
    grind
theorem ww_top (h : Rat) (hh : 0 ≤ h) (n : Nat) : ww h n * (1 - rho n * h) ≤ 1 := by
  induction n with
  | zero => rw [rho_zero]; show (1 : Rat) * _ ≤ 1; grind
  | succ n ih =>
    rw [ww_succ, rho_succ]
    have a := Rat.mul_nonneg (Rat.mul_nonneg hh hh) (Rat.mul_nonneg (show 0 ≤ ww h n by have := ww_one h hh n; grind) (show 0 ≤ rho n + 1 by have := rho_nonneg n; grind))
    grind
/-- How far the powers are from the sums. -/
theorem near_sum (h : Rat) (hh : 0 ≤ h) (N n : Nat) :
    ∃ e1 e2 : Rat, (zz h n).1 = (pp h (rho n * h) N).1 + e1 ∧ (zz h n).2 = (pp h (rho n * h) N).2 + e2 ∧
      -(ww h n * tt h (rho n * h) (N + 1)) ≤ e1 + e2 ∧ e1 + e2 ≤ ww h n * tt h (rho n * h) (N + 1) ∧
      -(ww h n * tt h (rho n * h) (N + 1)) ≤ e1 - e2 ∧ e1 - e2 ≤ ww h n * tt h (rho n * h) (N + 1) := by
  induction n with
  | zero =>
    have p : ∀ N, pp h 0 N = (1, 0) := by
      intro N
      induction N with
      | zero => rfl
      | succ N ih => rw [pp_succ, ih, tt_at0]; exact Prod.ext (by simp only; grind) (by simp only; grind)
    rw [rho_zero, Rat.zero_mul, p, tt_at0]
    exact ⟨0, 0, by show (1 : Rat) = 1 + 0; grind, by show (0 : Rat) = 0 + 0; grind, by grind, by grind, by grind, by grind⟩
  | succ n ih =>
    obtain ⟨e1, e2, h1, h2, l1, u1, l2, u2⟩ := ih
    obtain ⟨s1, s2⟩ := pp_step h (rho n * h) N
    have tn := tt_nonneg h hh n N
    have tm := tt_nonneg h hh n (N + 1)
    have w1 := ww_one h hh n
    have st := tt_step h (rho n * h) N
    rw [show rho (n + 1) * h = rho n * h + h by rw [rho_succ]; grind]
    refine ⟨e1 - h * e2 - h * ((ci N).2 * tt h (rho n * h) N), e2 + h * e1 + h * ((ci N).1 * tt h (rho n * h) N), ?_, ?_, ?_⟩
    · rw [zz_succ, s1]; simp only; rw [h1, h2]; grind
    · rw [zz_succ, s2]; simp only; rw [h1, h2]; grind
    · rw [st, ww_succ]
      obtain ⟨c1, c2⟩ := ci_one N
      generalize (ci N).1 = a at *
      generalize (ci N).2 = b at *
      generalize tt h (rho n * h) N = t at *
      generalize tt h (rho n * h) (N + 1) = T at *
      generalize ww h n = w at *
      have k1 := Rat.mul_nonneg hh (show 0 ≤ e1 + e2 + w * T by grind)
      have k2 := Rat.mul_nonneg hh (show 0 ≤ w * T - (e1 + e2) by grind)
      have k3 := Rat.mul_nonneg hh (show 0 ≤ e1 - e2 + w * T by grind)
      have k4 := Rat.mul_nonneg hh (show 0 ≤ w * T - (e1 - e2) by grind)
      have k5 := Rat.mul_nonneg hh tn
      have k6 := Rat.mul_nonneg (show 0 ≤ w - 1 by grind) k5
      have k7 := Rat.mul_nonneg hh (Rat.mul_nonneg (show 0 ≤ w by grind) k5)
      have d1 : h * (b * t) = b * (h * t) := by grind
      have d2 : h * (a * t) = a * (h * t) := by grind
      rw [d1, d2]
      generalize hH : h * t = H at *
      have x1 : (a - b) * H = H ∨ (a - b) * H = -H := by rcases c1 with c | c <;> rw [c] <;> grind
      have x2 : (a + b) * H = H ∨ (a + b) * H = -H := by rcases c2 with c | c <;> rw [c] <;> grind
      have y1 : (1 + h) * w * (T + H) = w * T + h * (w * T) + w * H + h * (w * H) := by grind
      rw [y1]
      have z1 : e1 - h * e2 - b * H + (e2 + h * e1 + a * H) = (e1 + e2) + h * (e1 - e2) + (a - b) * H := by grind
      have z2 : e1 - h * e2 - b * H - (e2 + h * e1 + a * H) = (e1 - e2) - h * (e1 + e2) - (a + b) * H := by grind
      rw [z1, z2]
      generalize (a - b) * H = P at *
      generalize (a + b) * H = Q at *
      refine ⟨?_, ?_, ?_, ?_⟩ <;> grind
end Go.Proofs.YtnjedigjabijcaaDoor
