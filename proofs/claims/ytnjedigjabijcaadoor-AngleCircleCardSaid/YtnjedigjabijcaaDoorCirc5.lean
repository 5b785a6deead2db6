import Derived.Test.YtnjedigjabijcaaDoorCirc4
import Derived.Test.YtnjedigjabijcaaDoorSine3
namespace Go.Proofs.YtnjedigjabijcaaDoor

def ee : Rat := 1 / 9223372036854775808
theorem ee_pos : 0 < ee := by decide +kernel
theorem ee_whole : rho 9223372036854775808 * ee = 1 := by rw [rho_cast]; decide +kernel
theorem ee_top : 10 ^ 18 * ee ≤ 1 := by decide +kernel
theorem ee_low : 1 ≤ 10 ^ 19 * ee := by decide +kernel
theorem num_rad : -ee ≤ (10803064813898918630 * ee / 67108864 - dd) * 134217728 ∧ (10803064813898918630 * ee / 67108864 - dd) * 134217728 ≤ ee := by decide +kernel
theorem rad_near (a : Nat) (ha : a ≤ 45000000) : -(14 * ee) ≤ 10 * (rho (radN a) * ee - rho a * dd) ∧ 10 * (rho (radN a) * ee - rho a * dd) ≤ 4 * ee := by
  obtain ⟨d1, d2⟩ := rho_div (a * 10803064813898918630) 67108864 (by omega)
  rw [rho_mul, show rho 10803064813898918630 = 10803064813898918630 by rw [rho_cast]; rfl, show rho 67108864 = 67108864 by rw [rho_cast]; rfl] at d1 d2
  show -(14 * ee) ≤ 10 * (rho (a * 10803064813898918630 / 67108864) * ee - rho a * dd) ∧ 10 * (rho (a * 10803064813898918630 / 67108864) * ee - rho a * dd) ≤ 4 * ee
  obtain ⟨n1, n2⟩ := num_rad
  have p := ee_pos
  have a0 := rho_nonneg a
  have a1 := rho_le ha
  rw [show rho 45000000 = 45000000 by rw [rho_cast]; rfl] at a1
  generalize rho (a * 10803064813898918630 / 67108864) = N at *
  generalize rho a = A at *
  generalize hk : 10803064813898918630 * ee / 67108864 - dd = k at *
  generalize ee = e at *
  have hK : 10803064813898918630 * e = (dd + k) * 67108864 := by grind
  have m1 := Rat.mul_nonneg (show 0 ≤ A * 10803064813898918630 - N * 67108864 by grind) (show 0 ≤ e by grind)
  have m2 := Rat.mul_pos (show 0 < (N + 1) * 67108864 - A * 10803064813898918630 by grind) p
  have m3 : A * 10803064813898918630 * e = A * ((dd + k) * 67108864) := by rw [← hK]; grind
  have m4 := Rat.mul_nonneg a0 (show 0 ≤ e - k * 134217728 by grind)
  have m5 := Rat.mul_nonneg a0 (show 0 ≤ e + k * 134217728 by grind)
  have m6 := Rat.mul_nonneg (show 0 ≤ 45000000 - A by grind) (show 0 ≤ e by grind)
  have g1 : A * ((dd + k) * 67108864) = 67108864 * (A * dd) + 67108864 * (A * k) := by grind
  have g2 : A * (e - k * 134217728) = A * e - 134217728 * (A * k) := by grind
  have g3 : A * (e + k * 134217728) = A * e + 134217728 * (A * k) := by grind
  have g4 : (A * 10803064813898918630 - N * 67108864) * e = A * 10803064813898918630 * e - 67108864 * (N * e) := by grind
  have g5 : ((N + 1) * 67108864 - A * 10803064813898918630) * e = 67108864 * (N * e) + 67108864 * e - A * 10803064813898918630 * e := by grind
  rw [m3, g1] at g4 g5
  rw [g4] at m1
  rw [g5] at m2
  rw [g2] at m4
  rw [g3] at m5
  constructor <;> grind
theorem low_near {h : Rat} {M : Nat} (R : Rot h M) (a : Nat) (ha : a ≤ 45000000) :
    Next (7 * ee) (rho (prodN (radN a) (serK (prodN (radN a) (radN a)) 21 10)) * ee) (zs h M a) ∧ Next (6 * ee) (rho (serK (prodN (radN a) (radN a)) 20 10) * ee) (zc h M a) := by
  obtain ⟨l1, l2, l3, l4⟩ := low_poly R a ha
  rw [pp_cos] at l1 l2
  rw [pp_sin] at l3 l4
  obtain ⟨x0, x1⟩ := x_45 a ha
  have x2 := dd_45'
  obtain ⟨r1, r2⟩ := rad_near a ha
  have e0 := ee_pos
  have e1 := ee_top
  have e2 := ee_low
  have hW := ee_whole
  have rl := radN_le a ha
  have sl := prodN_le (radN a) (radN a) (by omega)
  obtain ⟨u1, u2⟩ := prod_near (radN a) (radN a) ee e0 hW
  generalize hd : rho (radN a) * ee - rho a * dd = d at *
  rw [show rho (radN a) * ee = rho a * dd + d by grind] at u1 u2
  have xx : 0 ≤ (rho a * dd) * (rho a * dd) := Rat.mul_nonneg x0 x0
  have xt := bil (a := rho a * dd) (b := rho a * dd) (A := 4 / 5) (B := 4 / 5) (by grind) (by grind) (by grind) (by grind)
  have db := bil (a := d) (b := 2 * (rho a * dd) + d) (A := 14 / 10 * ee) (B := 16 / 10) (by grind) (by grind) (by grind) (by grind)
  have S21 := ser_near (prodN (radN a) (radN a)) 21 ((rho a * dd) * (rho a * dd)) ee e0 hW xx (by grind) (by omega) (by grind) (by grind) 10 (by omega)
  have S20 := ser_near (prodN (radN a) (radN a)) 20 ((rho a * dd) * (rho a * dd)) ee e0 hW xx (by grind) (by omega) (by grind) (by grind) 10 (by omega)
  obtain ⟨s0, s1⟩ := ser_le1 (prodN (radN a) (radN a)) 21 10 ee e0 hW
  obtain ⟨p1, p2⟩ := prod_near (radN a) (serK (prodN (radN a) (radN a)) 21 10) ee e0 hW
  rw [show rho (radN a) * ee = rho a * dd + d by grind] at p1 p2
  generalize rho (prodN (radN a) (serK (prodN (radN a) (radN a)) 21 10)) * ee = F at *
  generalize rho (serK (prodN (radN a) (radN a)) 21 10) * ee = s at *
  generalize rho (serK (prodN (radN a) (radN a)) 20 10) * ee = t at *
  generalize hr (rho a * dd * (rho a * dd)) 21 10 = H at *
  generalize hr (rho a * dd * (rho a * dd)) 20 10 = K at *
  generalize rho a * dd = x at *
  have k1 := bil (a := d) (b := s) (A := 14 / 10 * ee) (B := 1) (by grind) (by grind) (by grind) (by grind)
  have k2 := bil (a := x) (b := s - H) (A := 4 / 5) (B := 5 * ee) (by grind) (by grind) (by grind) (by grind)
  have g1 : (x + d) * s = x * H + d * s + x * (s - H) := by grind
  rw [g1] at p1 p2
  unfold Next
  refine ⟨⟨?_, ?_⟩, ?_, ?_⟩ <;> grind
theorem frac_near {h : Rat} {M : Nat} (R : Rot h M) (a : Nat) (ha : a ≤ 90000000) : Next (8 * ee) (rho (fracN a) * ee) (zs h M a) := by
  have e2 := ee_low
  by_cases c : 45000000 < a
  · rw [frac_high a c]
    obtain ⟨_, n1, n2⟩ := low_near R (90000000 - a) (by omega)
    obtain ⟨m1, m2⟩ := across R a ha
    unfold Next
    constructor <;> grind
  · rw [frac_low a (by omega)]
    obtain ⟨⟨n1, n2⟩, _⟩ := low_near R a (by omega)
    unfold Next
    constructor <;> grind
def Inside (e : Rat) (p : Int × Int) (v : Rat) : Prop := (p.1 : Rat) - e ≤ v ∧ v ≤ (p.2 : Rat) + e
theorem int_rho (n : Nat) : (((n : Nat) : Int) : Rat) = rho n := by rw [rho_cast]; rfl
theorem frac_third : -(1 / 10 ^ 18) ≤ rho (fracN 30000000) * ee - 1 / 2 ∧ rho (fracN 30000000) * ee - 1 / 2 ≤ 1 / 10 ^ 18 := by
  rw [rho_cast]
  decide +kernel
theorem hun_near (f : Nat) : rho (hunN f) ≤ 100000000 * (rho f * ee) ∧ 100000000 * (rho f * ee) ≤ rho (hunN f) + 1 := by
  obtain ⟨d1, d2⟩ := rho_div (f * 100000000) 9223372036854775808 (by omega)
  have e0 := ee_pos
  have hW := ee_whole
  rw [rho_mul, show rho 100000000 = 100000000 by rw [rho_cast]; rfl] at d1 d2
  show rho (f * 100000000 / 9223372036854775808) ≤ _ ∧ _ ≤ rho (f * 100000000 / 9223372036854775808) + 1
  generalize rho (f * 100000000 / 9223372036854775808) = N at *
  generalize rho 9223372036854775808 = W at *
  generalize rho f = F at *
  have k1 := Rat.mul_nonneg (show 0 ≤ F * 100000000 - N * W by grind) (show 0 ≤ ee by grind)
  have k2 := Rat.mul_pos (show 0 < (N + 1) * W - F * 100000000 by grind) e0
  have g1 : N * W * ee = N * (W * ee) := by grind
  have g2 : (N + 1) * W * ee = (N + 1) * (W * ee) := by grind
  rw [hW] at g1 g2
  constructor <;> grind
theorem quarter_near {h : Rat} {M : Nat} (R : Rot h M) (a : Nat) (ha : a ≤ 90000000) : Inside (1 / 10 ^ 9 - 1 / 10 ^ 12) (quarter (a : Int)) (100000000 * zs h M a) := by
  have e1 := ee_top
  have e0 := ee_pos
  have N := frac_near R a ha
  obtain ⟨n1, n2⟩ := N
  unfold Inside
  by_cases c0 : a = 0
  · subst c0
    rw [show quarter ((0 : Nat) : Int) = (0, 0) from rfl, (z_zero h M).2]
    constructor <;> grind
  by_cases c1 : a = 30000000
  · subst c1
    rw [show quarter ((30000000 : Nat) : Int) = (50000000, 50000000) from rfl]
    obtain ⟨f1, f2⟩ := frac_third
    rw [show ((50000000 : Int) : Rat) = 50000000 from rfl]
    constructor <;> grind
  by_cases c2 : a = 90000000
  · subst c2
    rw [show quarter ((90000000 : Nat) : Int) = (100000000, 100000000) from rfl]
    obtain ⟨_, _, f1, f2⟩ := quarter_i R
    rw [show ((100000000 : Int) : Rat) = 100000000 from rfl]
    constructor <;> grind
  rw [quarter_else a (by omega) (by omega) (by omega)]
  simp only [Int.toNat_natCast]
  obtain ⟨h1, h2⟩ := hun_near (fracN a)
  rw [show (((hunN (fracN a) : Nat) : Int) : Rat) = rho (hunN (fracN a)) from int_rho _, show (((hunN (fracN a) : Int) + 1 : Int) : Rat) = rho (hunN (fracN a)) + 1 by rw [Rat.intCast_add, int_rho]; rfl]
  constructor <;> grind
theorem inside_next {e f : Rat} {p : Int × Int} {x y : Rat} (h1 : Inside e p (100000000 * x)) (h2 : Next f y x) {g : Rat} (h3 : e + 100000000 * f ≤ g) : Inside g p (100000000 * y) := by
  unfold Inside Next at *
  constructor <;> grind
theorem inside_back {e f : Rat} {p : Int × Int} {x y : Rat} (h1 : Inside e p (100000000 * x)) (h2 : Next f x y) {g : Rat} (h3 : e + 100000000 * f ≤ g) : Inside g p (100000000 * y) := by
  unfold Inside Next at *
  constructor <;> grind
theorem inside_neg {e : Rat} {p : Int × Int} {x : Rat} (h1 : Inside e p (100000000 * x)) : Inside e (negE p) (100000000 * (-x)) := by
  unfold Inside negE at *
  simp only [Rat.intCast_neg]
  constructor <;> grind
theorem half_near {h : Rat} {M : Nat} (R : Rot h M) (a : Nat) (ha : a ≤ 180000000) : Inside (1 / 10 ^ 9 - 1 / 10 ^ 13) (halfT (a : Int)) (100000000 * zs h M a) := by
  unfold halfT
  by_cases c : 90000000 < (a : Int)
  · rw [if_pos c, show (180000000 - (a : Int)) = ((180000000 - a : Nat) : Int) by omega]
    exact inside_back (quarter_near R (180000000 - a) (by omega)) (mirror R a ha) (by decide +kernel)
  · rw [if_neg c]
    have q := quarter_near R a (by omega)
    exact inside_next q (f := 0) (y := zs h M a) (by unfold Next; generalize zs h M a = x; constructor <;> grind) (by decide +kernel)
theorem turn_near {h : Rat} {M : Nat} (R : Rot h M) (a : Nat) (ha : a < 360000000) : Inside (1 / 10 ^ 9 - 1 / 10 ^ 14) (sineE (a : Int)) (100000000 * zs h M a) := by
  by_cases c : 180000000 ≤ (a : Int) % 360000000
  · rw [sineE_neg _ c, show (a : Int) % 360000000 - 180000000 = ((a - 180000000 : Nat) : Int) by omega]
    have m := (turn2 R (a - 180000000) (by omega)).1
    rw [show a - 180000000 + 180000000 = a by omega] at m
    exact inside_next (inside_neg (half_near R (a - 180000000) (by omega))) m (by decide +kernel)
  · rw [sineE_pos _ c, show (a : Int) % 360000000 = ((a : Nat) : Int) by omega]
    exact inside_next (half_near R a (by omega)) (f := 0) (y := zs h M a) (by unfold Next; generalize zs h M a = x; constructor <;> grind) (by decide +kernel)
/-- The enclosures of the program hold the rotation's sine, but for a billionth of a unit. -/
theorem sine_near {h : Rat} {M : Nat} (R : Rot h M) (a : Nat) (ha : a ≤ 7900000000) : Inside (1 / 10 ^ 9) (sineE (a : Int)) (100000000 * zs h M a) := by
  have n := turn_near R (a % 360000000) (Nat.mod_lt _ (by omega))
  have k := turnk R (a % 360000000) (a / 360000000) (by omega)
  rw [show a % 360000000 + 360000000 * (a / 360000000) = a from Nat.mod_add_div a 360000000] at k
  have r1 := rho_le (show a / 360000000 ≤ 21 by omega)
  rw [show rho 21 = 21 by rw [rho_cast]; rfl] at r1
  have e : sineE ((a % 360000000 : Nat) : Int) = sineE (a : Int) := by
    unfold sineE
    rw [show ((a % 360000000 : Nat) : Int) % 360000000 = (a : Int) % 360000000 by omega]
  rw [e] at n
  refine inside_next n k ?_
  generalize rho (a / 360000000) = r at *
  clear n k e
  grind
end Go.Proofs.YtnjedigjabijcaaDoor
