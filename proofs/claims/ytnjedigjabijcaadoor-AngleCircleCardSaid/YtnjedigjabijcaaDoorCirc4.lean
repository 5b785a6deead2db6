import Derived.Test.YtnjedigjabijcaaDoorCirc3
namespace Go.Proofs.YtnjedigjabijcaaDoor

/-- A millionth of a degree. -/
def dd : Rat := 3141592653589793238462643383279502884197169399 / (180000000 * 10 ^ 45)
structure Rot (h : Rat) (M : Nat) : Prop where
  pos : 0 ≤ h
  small : h * 10 ^ 40 ≤ 1
  step : rho M * h = dd
def zc (h : Rat) (M a : Nat) : Rat := (zz h (a * M)).1
def zs (h : Rat) (M a : Nat) : Rat := (zz h (a * M)).2
theorem rot_x {h : Rat} {M : Nat} (R : Rot h M) (a : Nat) : rho (a * M) * h = rho a * dd := by
  have := R.step
  rw [rho_mul]
  grind
theorem dd_pos : 0 < dd := by decide +kernel
theorem dd_45 : 45000000 * dd ≤ 4 / 5 := by decide +kernel
theorem dd_45' : 10000 * (45000000 * dd) ≤ 7854 := by decide +kernel
theorem dd_all : 8000000000 * dd ≤ 140 := by decide +kernel
theorem tail22 : tt 0 (4 / 5) 22 ≤ 1 / 10 ^ 23 := by decide +kernel
theorem tail32 : tt 0 (4 / 5) 32 ≤ 1 / 10 ^ 37 := by decide +kernel
theorem x_45 (a : Nat) (ha : a ≤ 45000000) : 0 ≤ rho a * dd ∧ rho a * dd ≤ 45000000 * dd := by
  have p := dd_pos
  have a0 := rho_nonneg a
  have a1 := rho_le ha
  rw [show rho 45000000 = 45000000 by rw [rho_cast]; rfl] at a1
  have k1 := Rat.mul_nonneg a0 (show 0 ≤ dd by grind)
  have k2 := Rat.mul_nonneg (show 0 ≤ 45000000 - rho a by grind) (show 0 ≤ dd by grind)
  constructor <;> grind
theorem ww_45 {h : Rat} {M : Nat} (R : Rot h M) (a : Nat) (ha : a ≤ 45000000) : ww h (a * M) ≤ 5 ∧ 1 ≤ ww h (a * M) := by
  have w := ww_top h R.pos (a * M)
  have w1 := ww_one h R.pos (a * M)
  rw [rot_x R] at w
  have x := x_45 a ha
  have d := dd_45
  have k := Rat.mul_nonneg (show 0 ≤ ww h (a * M) by grind) (show 0 ≤ 4 / 5 - rho a * dd by grind)
  constructor <;> grind
theorem low_poly {h : Rat} {M : Nat} (R : Rot h M) (a : Nat) (ha : a ≤ 45000000) :
    -(1 / 10 ^ 22) ≤ zc h M a - (pp 0 (rho a * dd) 21).1 ∧ zc h M a - (pp 0 (rho a * dd) 21).1 ≤ 1 / 10 ^ 22 ∧ -(1 / 10 ^ 22) ≤ zs h M a - (pp 0 (rho a * dd) 21).2 ∧ zs h M a - (pp 0 (rho a * dd) 21).2 ≤ 1 / 10 ^ 22 := by
  have x := x_45 a ha
  have d := dd_45
  have w := ww_45 R a ha
  have t := uu_mono (rho a * dd) (4 / 5) (by grind) (by grind) 22
  have t0 := uu_nonneg (rho a * dd) (by grind) 22
  have t2 := tail22
  have s := R.small
  have n := near_poly h R.pos 21 (a * M) (by rw [rot_x R]; grind) (1 / 10 ^ 22) (by
    rw [rot_x R, show rho 21 = 21 by rw [rho_cast]; rfl]
    have k := Rat.mul_nonneg (show 0 ≤ 5 - ww h (a * M) by grind) t0
    show ww h (a * M) * tt 0 (rho a * dd) 22 + _ ≤ _
    grind)
  rw [rot_x R] at n
  exact n
theorem low_poly31 {h : Rat} {M : Nat} (R : Rot h M) :
    -(1 / 10 ^ 35) ≤ zc h M 45000000 - (pp 0 (45000000 * dd) 31).1 ∧ zc h M 45000000 - (pp 0 (45000000 * dd) 31).1 ≤ 1 / 10 ^ 35 ∧ -(1 / 10 ^ 35) ≤ zs h M 45000000 - (pp 0 (45000000 * dd) 31).2 ∧ zs h M 45000000 - (pp 0 (45000000 * dd) 31).2 ≤ 1 / 10 ^ 35 := by
  have x := x_45 45000000 (Nat.le_refl _)
  have d := dd_45
  have w := ww_45 R 45000000 (Nat.le_refl _)
  have t := uu_mono (rho 45000000 * dd) (4 / 5) (by grind) (by grind) 32
  have t0 := uu_nonneg (rho 45000000 * dd) (by grind) 32
  have t2 := tail32
  have s := R.small
  have n := near_poly h R.pos 31 (45000000 * M) (by rw [rot_x R]; grind) (1 / 10 ^ 35) (by
    rw [rot_x R, show rho 31 = 31 by rw [rho_cast]; rfl]
    have k := Rat.mul_nonneg (show 0 ≤ 5 - ww h (45000000 * M) by grind) t0
    show ww h (45000000 * M) * tt 0 (rho 45000000 * dd) 32 + _ ≤ _
    grind)
  rw [rot_x R, show rho 45000000 = 45000000 by rw [rho_cast]; rfl] at n
  exact n
theorem num_45 : -(1 / 10 ^ 34) ≤ (pp 0 (45000000 * dd) 31).1 * (pp 0 (45000000 * dd) 31).1 - (pp 0 (45000000 * dd) 31).2 * (pp 0 (45000000 * dd) 31).2 ∧
    (pp 0 (45000000 * dd) 31).1 * (pp 0 (45000000 * dd) 31).1 - (pp 0 (45000000 * dd) 31).2 * (pp 0 (45000000 * dd) 31).2 ≤ 1 / 10 ^ 34 ∧
    -(1 / 10 ^ 34) ≤ 2 * ((pp 0 (45000000 * dd) 31).1 * (pp 0 (45000000 * dd) 31).2) - 1 ∧ 2 * ((pp 0 (45000000 * dd) 31).1 * (pp 0 (45000000 * dd) 31).2) - 1 ≤ 1 / 10 ^ 34 ∧
    0 ≤ (pp 0 (45000000 * dd) 31).1 ∧ (pp 0 (45000000 * dd) 31).1 ≤ 1 ∧ 0 ≤ (pp 0 (45000000 * dd) 31).2 ∧ (pp 0 (45000000 * dd) 31).2 ≤ 1 := by decide +kernel
theorem z_add (h : Rat) (M a b : Nat) : zc h M (a + b) = zc h M a * zc h M b - zs h M a * zs h M b ∧ zs h M (a + b) = zc h M a * zs h M b + zs h M a * zc h M b := by
  unfold zc zs
  rw [Nat.add_mul]
  exact zz_add h _ _
theorem quarter_i {h : Rat} {M : Nat} (R : Rot h M) : -(1 / 10 ^ 30) ≤ zc h M 90000000 ∧ zc h M 90000000 ≤ 1 / 10 ^ 30 ∧ -(1 / 10 ^ 30) ≤ zs h M 90000000 - 1 ∧ zs h M 90000000 - 1 ≤ 1 / 10 ^ 30 := by
  obtain ⟨a1, a2, a3, a4⟩ := low_poly31 R
  obtain ⟨b1, b2, b3, b4, c0, c1, s0, s1⟩ := num_45
  obtain ⟨e1, e2⟩ := z_add h M 45000000 45000000
  rw [show 45000000 + 45000000 = 90000000 from rfl] at e1 e2
  rw [e1, e2]
  generalize (pp 0 (45000000 * dd) 31).1 = c at *
  generalize (pp 0 (45000000 * dd) 31).2 = s at *
  generalize hd1 : zc h M 45000000 - c = d1 at *
  generalize hd2 : zs h M 45000000 - s = d2 at *
  rw [show zc h M 45000000 = c + d1 by grind, show zs h M 45000000 = s + d2 by grind]
  have k1 := bil (a := c) (b := d1) (A := 1) (B := 1 / 10 ^ 35) (by grind) (by grind) (by grind) (by grind)
  have k2 := bil (a := c) (b := d2) (A := 1) (B := 1 / 10 ^ 35) (by grind) (by grind) (by grind) (by grind)
  have k3 := bil (a := s) (b := d1) (A := 1) (B := 1 / 10 ^ 35) (by grind) (by grind) (by grind) (by grind)
  have k4 := bil (a := s) (b := d2) (A := 1) (B := 1 / 10 ^ 35) (by grind) (by grind) (by grind) (by grind)
  have k5 := bil (a := d1) (b := d1) (A := 1 / 10 ^ 35) (B := 1 / 10 ^ 35) (by grind) (by grind) (by grind) (by grind)
  have k6 := bil (a := d2) (b := d2) (A := 1 / 10 ^ 35) (B := 1 / 10 ^ 35) (by grind) (by grind) (by grind) (by grind)
  have k7 := bil (a := d1) (b := d2) (A := 1 / 10 ^ 35) (B := 1 / 10 ^ 35) (by grind) (by grind) (by grind) (by grind)
  refine ⟨?_, ?_, ?_, ?_⟩ <;> grind
/-- The squares' sum. -/
theorem norm_eq1 (h : Rat) (n : Nat) : (zz h (n + 1)).1 * (zz h (n + 1)).1 + (zz h (n + 1)).2 * (zz h (n + 1)).2 = (1 + h * h) * ((zz h n).1 * (zz h n).1 + (zz h n).2 * (zz h n).2) := by
  rw [zz_succ]
  simp only
  grind
theorem norm_all (h : Rat) (n : Nat) : 1 ≤ (zz h n).1 * (zz h n).1 + (zz h n).2 * (zz h n).2 ∧ ((zz h n).1 * (zz h n).1 + (zz h n).2 * (zz h n).2) * (1 - rho n * (h * h)) ≤ 1 := by
  have hh : 0 ≤ h * h := by
    by_cases q : 0 ≤ h
    · exact Rat.mul_nonneg q q
    · have := Rat.mul_nonneg (show 0 ≤ -h by grind) (show 0 ≤ -h by grind); grind
  induction n with
  | zero => rw [rho_zero]; exact ⟨by show (1 : Rat) ≤ 1 * 1 + 0 * 0; grind, by show ((1 : Rat) * 1 + 0 * 0) * _ ≤ 1; grind⟩
  | succ n ih =>
    rw [norm_eq1, rho_succ]
    obtain ⟨a, b⟩ := ih
    have r := rho_nonneg n
    generalize (zz h n).1 * (zz h n).1 + (zz h n).2 * (zz h n).2 = N at *
    generalize h * h = H at *
    have k := Rat.mul_nonneg hh (show 0 ≤ N by grind)
    have k2 := Rat.mul_nonneg (Rat.mul_nonneg hh hh) (Rat.mul_nonneg (show 0 ≤ rho n + 1 by grind) (show 0 ≤ N by grind))
    constructor <;> grind
theorem norm_near {h : Rat} {M : Nat} (R : Rot h M) (a : Nat) (ha : a ≤ 8000000000) :
    1 ≤ zc h M a * zc h M a + zs h M a * zs h M a ∧ zc h M a * zc h M a + zs h M a * zs h M a ≤ 1 + 1 / 10 ^ 30 := by
  obtain ⟨n1, n2⟩ := norm_all h (a * M)
  have x := rot_x R a
  have p := dd_pos
  have d := dd_all
  have a1 := rho_le ha
  rw [show rho 8000000000 = 8000000000 by rw [rho_cast]; rfl] at a1
  have k2 := Rat.mul_nonneg (show 0 ≤ 8000000000 - rho a by grind) (show 0 ≤ dd by grind)
  have hx : rho (a * M) * (h * h) = (rho a * dd) * h := by grind
  rw [hx] at n2
  have s := R.small
  have k3 := Rat.mul_nonneg (show 0 ≤ 140 - rho a * dd by grind) R.pos
  have t1 : rho a * dd * h ≤ 1 / 10 ^ 32 := by grind
  clear k3 hx
  unfold zc zs
  generalize (zz h (a * M)).1 * (zz h (a * M)).1 + (zz h (a * M)).2 * (zz h (a * M)).2 = N at *
  generalize rho a * dd * h = t at *
  have k4 := Rat.mul_nonneg (show 0 ≤ N by grind) (show 0 ≤ 1 / 10 ^ 32 - t by grind)
  constructor <;> grind
theorem sq_top {x : Rat} (h : x * x ≤ 11 / 10) : -(11 / 10) ≤ x ∧ x ≤ 11 / 10 := by
  constructor
  · by_cases q : -(11 / 10) ≤ x
    · exact q
    · have := Rat.mul_pos (show 0 < -x - 11 / 10 by grind) (show 0 < -x + 11 / 10 by grind)
      grind
  · by_cases q : x ≤ 11 / 10
    · exact q
    · have := Rat.mul_pos (show 0 < x - 11 / 10 by grind) (show 0 < x + 11 / 10 by grind)
      grind
theorem sq_nonneg (x : Rat) : 0 ≤ x * x := by
  by_cases q : 0 ≤ x
  · exact Rat.mul_nonneg q q
  · have := Rat.mul_nonneg (show 0 ≤ -x by grind) (show 0 ≤ -x by grind); grind
theorem z_top {h : Rat} {M : Nat} (R : Rot h M) (a : Nat) (ha : a ≤ 8000000000) : -(11 / 10) ≤ zc h M a ∧ zc h M a ≤ 11 / 10 ∧ -(11 / 10) ≤ zs h M a ∧ zs h M a ≤ 11 / 10 := by
  obtain ⟨n1, n2⟩ := norm_near R a ha
  have q1 := sq_nonneg (zc h M a)
  have q2 := sq_nonneg (zs h M a)
  have a1 := sq_top (x := zc h M a) (by grind)
  have a2 := sq_top (x := zs h M a) (by grind)
  exact ⟨a1.1, a1.2, a2.1, a2.2⟩
/-- x and y are next to each other. -/
def Next (e x y : Rat) : Prop := -e ≤ x - y ∧ x - y ≤ e
theorem turn1 {h : Rat} {M : Nat} (R : Rot h M) (a : Nat) (ha : a ≤ 8000000000) : Next (3 / 10 ^ 30) (zs h M (a + 90000000)) (zc h M a) ∧ Next (3 / 10 ^ 30) (zc h M (a + 90000000)) (-zs h M a) := by
  obtain ⟨e1, e2⟩ := z_add h M a 90000000
  obtain ⟨q1, q2, q3, q4⟩ := quarter_i R
  obtain ⟨t1, t2, t3, t4⟩ := z_top R a ha
  rw [e1, e2]
  generalize zc h M 90000000 = p at *
  generalize hq : zs h M 90000000 - 1 = q at *
  rw [show zs h M 90000000 = 1 + q by grind]
  generalize zc h M a = c at *
  generalize zs h M a = s at *
  have k1 := bil (a := c) (b := p) (A := 11 / 10) (B := 1 / 10 ^ 30) t1 t2 q1 q2
  have k2 := bil (a := s) (b := p) (A := 11 / 10) (B := 1 / 10 ^ 30) t3 t4 q1 q2
  have k3 := bil (a := c) (b := q) (A := 11 / 10) (B := 1 / 10 ^ 30) t1 t2 q3 q4
  have k4 := bil (a := s) (b := q) (A := 11 / 10) (B := 1 / 10 ^ 30) t3 t4 q3 q4
  unfold Next
  refine ⟨⟨?_, ?_⟩, ?_, ?_⟩ <;> grind
theorem next_chain {e x y z : Rat} (h1 : Next e x y) {f : Rat} (h2 : Next f y z) : Next (e + f) x z := by
  unfold Next at *
  grind
theorem next_neg {e x y : Rat} (h1 : Next e x y) : Next e (-x) (-y) := by
  unfold Next at *
  grind
theorem next_mono {e f x y : Rat} (h1 : Next e x y) (h : e ≤ f) : Next f x y := by
  unfold Next at *
  grind
theorem turn2 {h : Rat} {M : Nat} (R : Rot h M) (a : Nat) (ha : a + 90000000 ≤ 8000000000) : Next (6 / 10 ^ 30) (zs h M (a + 180000000)) (-zs h M a) ∧ Next (6 / 10 ^ 30) (zc h M (a + 180000000)) (-zc h M a) := by
  obtain ⟨a1, a2⟩ := turn1 R a (by omega)
  obtain ⟨b1, b2⟩ := turn1 R (a + 90000000) ha
  rw [show a + 90000000 + 90000000 = a + 180000000 by omega] at b1 b2
  have e : (3 / 10 ^ 30 + 3 / 10 ^ 30 : Rat) ≤ 6 / 10 ^ 30 := by decide +kernel
  exact ⟨next_mono (next_chain b1 a2) e, next_mono (next_chain b2 (next_neg a1)) e⟩
theorem turn4 {h : Rat} {M : Nat} (R : Rot h M) (a : Nat) (ha : a + 360000000 ≤ 8000000000) : Next (12 / 10 ^ 30) (zs h M (a + 360000000)) (zs h M a) := by
  obtain ⟨a1, _⟩ := turn2 R a (by omega)
  obtain ⟨b1, _⟩ := turn2 R (a + 180000000) (by omega)
  rw [show a + 180000000 + 180000000 = a + 360000000 by omega] at b1
  have e : (6 / 10 ^ 30 + 6 / 10 ^ 30 : Rat) ≤ 12 / 10 ^ 30 := by decide +kernel
  have c := next_mono (next_chain b1 (next_neg a1)) e
  rw [show - -zs h M a = zs h M a by rw [Rat.neg_neg]] at c
  exact c
theorem turnk {h : Rat} {M : Nat} (R : Rot h M) (a : Nat) : ∀ k : Nat, a + 360000000 * k ≤ 8000000000 → Next (rho k * (12 / 10 ^ 30)) (zs h M (a + 360000000 * k)) (zs h M a)
  | 0, _ => by unfold Next; rw [rho_zero, Nat.mul_zero, Nat.add_zero]; generalize zs h M a = x; constructor <;> grind
  | k + 1, hk => by
    have a1 := turnk R a k (Nat.le_trans (Nat.add_le_add_left (Nat.mul_le_mul_left _ (Nat.le_succ k)) a) hk)
    have e : a + 360000000 * (k + 1) = a + 360000000 * k + 360000000 := by rw [Nat.mul_succ, Nat.add_assoc]
    have b1 := turn4 R (a + 360000000 * k) (Nat.le_trans (Nat.le_of_eq e.symm) hk)
    rw [← e] at b1
    have c := next_chain b1 a1
    rw [rho_succ]
    refine next_mono c ?_
    generalize rho k = r
    grind
theorem z_zero (h : Rat) (M : Nat) : zc h M 0 = 1 ∧ zs h M 0 = 0 := by
  unfold zc zs
  rw [Nat.zero_mul]
  exact ⟨rfl, rfl⟩
/-- The other side of a right angle, and of a half turn. -/
theorem mirror {h : Rat} {M : Nat} (R : Rot h M) (a : Nat) (ha : a ≤ 180000000) : Next (3 / 10 ^ 29) (zs h M (180000000 - a)) (zs h M a) := by
  obtain ⟨⟨a1, a2⟩, a3, a4⟩ := turn2 R 0 (by omega)
  obtain ⟨z1, z2⟩ := z_zero h M
  rw [z1] at a3 a4
  rw [z2] at a1 a2
  rw [Nat.zero_add] at a1 a2 a3 a4
  obtain ⟨e1, e2⟩ := z_add h M (180000000 - a) a
  rw [Nat.sub_add_cancel ha] at e1 e2
  obtain ⟨t1, t2, t3, t4⟩ := z_top R a (by omega)
  obtain ⟨u1, u2, u3, u4⟩ := z_top R (180000000 - a) (by omega)
  obtain ⟨n1, n2⟩ := norm_near R a (by omega)
  generalize zc h M (180000000 - a) = c' at *
  generalize zs h M (180000000 - a) = s' at *
  generalize zc h M a = c at *
  generalize zs h M a = s at *
  generalize hp : zs h M 180000000 = p at *
  generalize hq : zc h M 180000000 + 1 = q at *
  have k1 := bil (a := c) (b := p) (A := 11 / 10) (B := 6 / 10 ^ 30) t1 t2 (by grind) (by grind)
  have k2 := bil (a := s) (b := q) (A := 11 / 10) (B := 6 / 10 ^ 30) t3 t4 (by grind) (by grind)
  have k3 := bil (a := s') (b := c * c + s * s - 1) (A := 11 / 10) (B := 1 / 10 ^ 30) u3 u4 (by grind) (by grind)
  have f : s' * (c * c + s * s) = c * (c' * s + s' * c) - s * (c' * c - s' * s) := by grind
  rw [← e2, ← e1, show zc h M 180000000 = q - 1 by grind] at f
  unfold Next
  constructor <;> grind
theorem across {h : Rat} {M : Nat} (R : Rot h M) (a : Nat) (ha : a ≤ 90000000) : Next (1 / 10 ^ 29) (zc h M (90000000 - a)) (zs h M a) := by
  obtain ⟨q1, q2, q3, q4⟩ := quarter_i R
  obtain ⟨e1, e2⟩ := z_add h M (90000000 - a) a
  rw [Nat.sub_add_cancel ha] at e1 e2
  obtain ⟨t1, t2, t3, t4⟩ := z_top R a (by omega)
  obtain ⟨u1, u2, u3, u4⟩ := z_top R (90000000 - a) (by omega)
  obtain ⟨n1, n2⟩ := norm_near R a (by omega)
  generalize zc h M (90000000 - a) = c' at *
  generalize zs h M (90000000 - a) = s' at *
  generalize zc h M a = c at *
  generalize zs h M a = s at *
  generalize zc h M 90000000 = p at *
  generalize hq : zs h M 90000000 - 1 = q at *
  have k1 := bil (a := c) (b := p) (A := 11 / 10) (B := 1 / 10 ^ 30) t1 t2 (by grind) (by grind)
  have k2 := bil (a := s) (b := q) (A := 11 / 10) (B := 1 / 10 ^ 30) t3 t4 (by grind) (by grind)
  have k3 := bil (a := c') (b := c * c + s * s - 1) (A := 11 / 10) (B := 1 / 10 ^ 30) u1 u2 (by grind) (by grind)
  have f : c' * (c * c + s * s) = c * (c' * c - s' * s) + s * (c' * s + s' * c) := by grind
  rw [← e2, ← e1, show zs h M 90000000 = q + 1 by grind] at f
  unfold Next
  constructor <;> grind
end Go.Proofs.YtnjedigjabijcaaDoor
