import Derived.Test.YtnjedigjabijcaaDoorCirc5
import Derived.Test.YtnjedigjabijcaaDoorShape
import Derived.Test.YtnjedigjabijcaaDoorCircDef
namespace Go.Proofs.YtnjedigjabijcaaDoor

theorem rot_ex : ∃ h : Rat, ∃ M : Nat, Rot h M := by
  refine ⟨dd / 10 ^ 40, 10 ^ 40, ?_, ?_, ?_⟩
  · decide +kernel
  · decide +kernel
  · rw [rho_cast]; decide +kernel
theorem clamp {e : Rat} (he : 0 ≤ e) {p : Int × Int} {v : Rat} (h : Inside e p v) (hp : p.1 ≤ p.2) : ∃ v0 : Rat, (p.1 : Rat) ≤ v0 ∧ v0 ≤ (p.2 : Rat) ∧ -e ≤ v - v0 ∧ v - v0 ≤ e := by
  obtain ⟨h1, h2⟩ := h
  have hq : (p.1 : Rat) ≤ (p.2 : Rat) := Rat.intCast_le_intCast.mpr hp
  by_cases c1 : (p.1 : Rat) ≤ v
  · by_cases c2 : v ≤ (p.2 : Rat)
    · exact ⟨v, c1, c2, by grind, by grind⟩
    · exact ⟨(p.2 : Rat), hq, by grind, by grind, by grind⟩
  · exact ⟨(p.1 : Rat), by grind, hq, by grind, by grind⟩
theorem corner_lo {a1 a2 b1 b2 x y : Rat} (h1 : a1 ≤ x) (h2 : x ≤ a2) (h3 : b1 ≤ y) (h4 : y ≤ b2) : a1 * b1 ≤ x * y ∨ a1 * b2 ≤ x * y ∨ a2 * b1 ≤ x * y ∨ a2 * b2 ≤ x * y := by
  by_cases c : 0 ≤ y
  · have k := Rat.mul_nonneg (show 0 ≤ x - a1 by grind) c
    by_cases d : 0 ≤ a1
    · have m := Rat.mul_nonneg d (show 0 ≤ y - b1 by grind)
      left; grind
    · have m := Rat.mul_nonneg (show 0 ≤ -a1 by grind) (show 0 ≤ b2 - y by grind)
      right; left; grind
  · have k := Rat.mul_nonneg (show 0 ≤ a2 - x by grind) (show 0 ≤ -y by grind)
    by_cases d : 0 ≤ a2
    · have m := Rat.mul_nonneg d (show 0 ≤ y - b1 by grind)
      right; right; left; grind
    · have m := Rat.mul_nonneg (show 0 ≤ -a2 by grind) (show 0 ≤ b2 - y by grind)
      right; right; right; grind
theorem corner_hi {a1 a2 b1 b2 x y : Rat} (h1 : a1 ≤ x) (h2 : x ≤ a2) (h3 : b1 ≤ y) (h4 : y ≤ b2) : x * y ≤ a1 * b1 ∨ x * y ≤ a1 * b2 ∨ x * y ≤ a2 * b1 ∨ x * y ≤ a2 * b2 := by
  rcases corner_lo (a1 := -a2) (a2 := -a1) (x := -x) (show -a2 ≤ -x by grind) (show -x ≤ -a1 by grind) h3 h4 with h | h | h | h
  · right; right; left; grind
  · right; right; right; grind
  · left; grind
  · right; left; grind
theorem prod_in {p q : Int × Int} {x y : Rat} (h1 : (p.1 : Rat) ≤ x) (h2 : x ≤ (p.2 : Rat)) (h3 : (q.1 : Rat) ≤ y) (h4 : y ≤ (q.2 : Rat)) :
    ((prodE p q).1 : Rat) ≤ x * y ∧ x * y ≤ ((prodE p q).2 : Rat) := by
  have lo := corner_lo h1 h2 h3 h4
  have hi := corner_hi h1 h2 h3 h4
  rw [← Rat.intCast_mul, ← Rat.intCast_mul, ← Rat.intCast_mul, ← Rat.intCast_mul] at lo hi
  unfold prodE
  simp only
  generalize p.1 * q.1 = A at *
  generalize p.1 * q.2 = B at *
  generalize p.2 * q.1 = C at *
  generalize p.2 * q.2 = D at *
  constructor
  · rcases lo with h | h | h | h
    · have m : ((min (min (min A B) C) D : Int) : Rat) ≤ (A : Rat) := Rat.intCast_le_intCast.mpr (by omega)
      grind
    · have m : ((min (min (min A B) C) D : Int) : Rat) ≤ (B : Rat) := Rat.intCast_le_intCast.mpr (by omega)
      grind
    · have m : ((min (min (min A B) C) D : Int) : Rat) ≤ (C : Rat) := Rat.intCast_le_intCast.mpr (by omega)
      grind
    · have m : ((min (min (min A B) C) D : Int) : Rat) ≤ (D : Rat) := Rat.intCast_le_intCast.mpr (by omega)
      grind
  · rcases hi with h | h | h | h
    · have m : (A : Rat) ≤ ((max (max (max A B) C) D : Int) : Rat) := Rat.intCast_le_intCast.mpr (by omega)
      grind
    · have m : (B : Rat) ≤ ((max (max (max A B) C) D : Int) : Rat) := Rat.intCast_le_intCast.mpr (by omega)
      grind
    · have m : (C : Rat) ≤ ((max (max (max A B) C) D : Int) : Rat) := Rat.intCast_le_intCast.mpr (by omega)
      grind
    · have m : (D : Rat) ≤ ((max (max (max A B) C) D : Int) : Rat) := Rat.intCast_le_intCast.mpr (by omega)
      grind
def eps : Rat := 11 / 10 ^ 10
theorem fit_cast {p : Int × Int} (h : Fit p) : -100000001 ≤ (p.1 : Rat) ∧ (p.2 : Rat) ≤ 100000001 := by
  have a := Rat.intCast_le_intCast.mpr h.1
  have b := Rat.intCast_le_intCast.mpr h.2.2
  rw [show ((-100000001 : Int) : Rat) = -100000001 from rfl] at a
  rw [show ((100000001 : Int) : Rat) = 100000001 from rfl] at b
  exact ⟨a, b⟩
theorem near_prod {p q : Int × Int} {X Y : Rat} (hp : Fit p) (hq : Fit q) (hX : Inside eps p X) (hY : Inside eps q Y) (y1 : -110000000 ≤ Y) (y2 : Y ≤ 110000000) :
    ((prodE p q).1 : Rat) - 1 / 4 ≤ X * Y ∧ X * Y ≤ ((prodE p q).2 : Rat) + 1 / 4 := by
  have e0 : 0 ≤ eps := by decide +kernel
  obtain ⟨x0, a1, a2, a3, a4⟩ := clamp e0 hX hp.2.1
  obtain ⟨y0, b1, b2, b3, b4⟩ := clamp e0 hY hq.2.1
  obtain ⟨m1, m2⟩ := prod_in a1 a2 b1 b2
  obtain ⟨f1, f2⟩ := fit_cast hp
  have k1 := bil (a := X - x0) (b := Y) (A := eps) (B := 110000000) a3 a4 y1 y2
  have k2 := bil (a := x0) (b := Y - y0) (A := 100000001) (B := eps) (by grind) (by grind) b3 b4
  have g : X * Y = x0 * y0 + (X - x0) * Y + x0 * (Y - y0) := by grind
  have e1 : 110000000 * eps + 100000001 * eps ≤ 1 / 4 := by decide +kernel
  rw [g]
  constructor <;> grind
theorem sq_in {p : Int × Int} {x : Rat} (h1 : (p.1 : Rat) ≤ x) (h2 : x ≤ (p.2 : Rat)) : ((sqE p).1 : Rat) ≤ x * x ∧ x * x ≤ ((sqE p).2 : Rat) := by
  unfold sqE
  split
  · exact ⟨sq_nonneg x, (prod_in h1 h2 h1 h2).2⟩
  · rename_i hc
    simp only
    have le12 : p.1 ≤ p.2 := Rat.intCast_le_intCast.mp (by grind)
    by_cases c : 0 < p.1
    · have c' : (0 : Rat) ≤ (p.1 : Rat) := Rat.intCast_le_intCast.mpr (show (0 : Int) ≤ p.1 by omega)
      have k1 := Rat.mul_nonneg (show 0 ≤ x - p.1 by grind) (show 0 ≤ x + p.1 by grind)
      have k2 := Rat.mul_nonneg (show 0 ≤ (p.2 : Rat) - x by grind) (show 0 ≤ (p.2 : Rat) + x by grind)
      have m : ((min (p.1 * p.1) (p.2 * p.2) : Int) : Rat) ≤ ((p.1 * p.1 : Int) : Rat) := Rat.intCast_le_intCast.mpr (by omega)
      have n : ((p.2 * p.2 : Int) : Rat) ≤ ((max (p.1 * p.1) (p.2 * p.2) : Int) : Rat) := Rat.intCast_le_intCast.mpr (by omega)
      rw [Rat.intCast_mul] at m n
      constructor <;> grind
    · have d : p.2 < 0 := by
        rcases Int.lt_or_le p.2 0 with h | h
        · exact h
        · exact absurd ⟨by omega, h⟩ hc
      have c' : (p.2 : Rat) ≤ (0 : Rat) := Rat.intCast_le_intCast.mpr (show p.2 ≤ (0 : Int) by omega)
      have k1 := Rat.mul_nonneg (show 0 ≤ (p.2 : Rat) - x by grind) (show 0 ≤ -(x + p.2) by grind)
      have k2 := Rat.mul_nonneg (show 0 ≤ x - p.1 by grind) (show 0 ≤ -(x + p.1) by grind)
      have m : ((min (p.1 * p.1) (p.2 * p.2) : Int) : Rat) ≤ ((p.2 * p.2 : Int) : Rat) := Rat.intCast_le_intCast.mpr (by omega)
      have n : ((p.1 * p.1 : Int) : Rat) ≤ ((max (p.1 * p.1) (p.2 * p.2) : Int) : Rat) := Rat.intCast_le_intCast.mpr (by omega)
      rw [Rat.intCast_mul] at m n
      constructor <;> grind
theorem near_sq {p : Int × Int} {X : Rat} (hp : Fit p) (hX : Inside eps p X) (y1 : -110000000 ≤ X) (y2 : X ≤ 110000000) :
    ((sqE p).1 : Rat) - 1 / 4 ≤ X * X ∧ X * X ≤ ((sqE p).2 : Rat) + 1 / 4 := by
  have e0 : 0 ≤ eps := by decide +kernel
  obtain ⟨x0, a1, a2, a3, a4⟩ := clamp e0 hX hp.2.1
  obtain ⟨m1, m2⟩ := sq_in a1 a2
  obtain ⟨f1, f2⟩ := fit_cast hp
  have k1 := bil (a := X - x0) (b := X) (A := eps) (B := 110000000) a3 a4 y1 y2
  have k2 := bil (a := x0) (b := X - x0) (A := 100000001) (B := eps) (by grind) (by grind) a3 a4
  have g : X * X = x0 * x0 + (X - x0) * X + x0 * (X - x0) := by grind
  have e1 : 110000000 * eps + 100000001 * eps ≤ 1 / 4 := by decide +kernel
  rw [g]
  constructor <;> grind
theorem le_of_near {A B : Int} (h : (A : Rat) < (B : Rat) + 1) : A ≤ B := by
  have : A < B + 1 := Rat.intCast_lt_intCast.mp (by rw [Rat.intCast_add]; exact h)
  omega
theorem sine_fit (a : Int) : Fit (sineE a) := by
  obtain ⟨h1, h2, h3, h4⟩ := sineE_top a
  exact ⟨by omega, h2, by omega⟩
/-- What the sine and the cosine of an angle hold. -/
theorem both_near {h : Rat} {M : Nat} (R : Rot h M) (a : Int) (A : Nat) (k : Int) (hA : (A : Int) = a + 360000000 * k) (hl : A ≤ 7600000000) :
    Inside eps (sineE a) (100000000 * zs h M A) ∧ Inside eps (sineE (a + 90000000)) (100000000 * zc h M A) := by
  have s := sine_near R A (by omega)
  have c := sine_near R (A + 90000000) (by omega)
  have t := (turn1 R A (by omega)).1
  rw [show sineE (A : Int) = sineE a by rw [hA, sineE_turn]] at s
  rw [show sineE ((A + 90000000 : Nat) : Int) = sineE (a + 90000000) by
    rw [show ((A + 90000000 : Nat) : Int) = (a + 90000000) + 360000000 * k by omega, sineE_turn]] at c
  refine ⟨inside_next s (f := 0) (y := zs h M A) (by unfold Next; generalize zs h M A = x; constructor <;> grind) (by decide +kernel), inside_back c t (by decide +kernel)⟩
theorem lowB {x : Rat} (h : -(11 / 10) ≤ x) : -110000000 ≤ 100000000 * x := by grind
theorem highB' {x : Rat} (h : x ≤ 11 / 10) : 100000000 * x ≤ 110000000 := by grind
theorem circle_math (a b : Int) (a0 : -1800000000 ≤ a) (a1 : a ≤ 1800000000) (b0 : -1800000000 ≤ b) (b1 : b ≤ 1800000000) :
    ((sqE (sineE a)).1 + (sqE (sineE (a + 90000000))).1 ≤ 10000000000000000 ∧ 10000000000000000 ≤ (sqE (sineE a)).2 + (sqE (sineE (a + 90000000))).2) ∧
    ((sineE (a + b)).1 * 100000000 ≤ (prodE (sineE a) (sineE (b + 90000000))).2 + (prodE (sineE (a + 90000000)) (sineE b)).2 ∧
      (prodE (sineE a) (sineE (b + 90000000))).1 + (prodE (sineE (a + 90000000)) (sineE b)).1 ≤ (sineE (a + b)).2 * 100000000) ∧
    ((sineE (a + b + 90000000)).1 * 100000000 ≤ (prodE (sineE (a + 90000000)) (sineE (b + 90000000))).2 - (prodE (sineE a) (sineE b)).1 ∧
      (prodE (sineE (a + 90000000)) (sineE (b + 90000000))).1 - (prodE (sineE a) (sineE b)).2 ≤ (sineE (a + b + 90000000)).2 * 100000000) := by
  obtain ⟨h, M, R⟩ := rot_ex
  obtain ⟨A, hA⟩ := Int.eq_ofNat_of_zero_le (show 0 ≤ a + 360000000 * 5 by omega)
  obtain ⟨B, hB⟩ := Int.eq_ofNat_of_zero_le (show 0 ≤ b + 360000000 * 5 by omega)
  obtain ⟨sa, ca⟩ := both_near R a A 5 hA.symm (by omega)
  obtain ⟨sb, cb⟩ := both_near R b B 5 hB.symm (by omega)
  obtain ⟨su, cu⟩ := both_near R (a + b) (A + B) 10 (by omega) (by omega)
  obtain ⟨e1, e2⟩ := z_add h M A B
  obtain ⟨n1, n2⟩ := norm_near R A (by omega)
  obtain ⟨ta1, ta2, ta3, ta4⟩ := z_top R A (by omega)
  obtain ⟨tb1, tb2, tb3, tb4⟩ := z_top R B (by omega)
  have fa := sine_fit a
  have fc := sine_fit (a + 90000000)
  have fb := sine_fit b
  have fd := sine_fit (b + 90000000)
  rw [e2] at su
  rw [e1] at cu
  generalize zs h M A = S at *
  generalize zc h M A = C at *
  generalize zs h M B = T at *
  generalize zc h M B = D at *
  generalize sineE a = s at *
  generalize sineE (a + 90000000) = c at *
  generalize sineE b = t at *
  generalize sineE (b + 90000000) = d at *
  generalize sineE (a + b) = u at *
  generalize sineE (a + b + 90000000) = v at *
  obtain ⟨p1, p2⟩ := near_sq fa sa (lowB ta3) (highB' ta4)
  obtain ⟨p3, p4⟩ := near_sq fc ca (lowB ta1) (highB' ta2)
  obtain ⟨q1, q2⟩ := near_prod fa fd sa cb (lowB tb1) (highB' tb2)
  obtain ⟨q3, q4⟩ := near_prod fc fb ca sb (lowB tb3) (highB' tb4)
  obtain ⟨r1, r2⟩ := near_prod fc fd ca cb (lowB tb1) (highB' tb2)
  obtain ⟨r3, r4⟩ := near_prod fa fb sa sb (lowB tb3) (highB' tb4)
  obtain ⟨u1, u2⟩ := su
  obtain ⟨v1, v2⟩ := cu
  have e : eps = 11 / 10 ^ 10 := rfl
  rw [e] at u1 u2 v1 v2
  have k16 : ((10000000000000000 : Int) : Rat) = 10000000000000000 := rfl
  have k8 : ((100000000 : Int) : Rat) = 100000000 := rfl
  clear hA hB a0 a1 b0 b1 fa fc fb fd sa ca sb cb e e1 e2 R
  generalize sqE s = S2 at *
  generalize sqE c = C2 at *
  generalize prodE s d = P1 at *
  generalize prodE c t = P2 at *
  generalize prodE c d = P3 at *
  generalize prodE s t = P4 at *
  refine ⟨⟨?_, ?_⟩, ⟨?_, ?_⟩, ?_, ?_⟩ <;> (apply le_of_near; simp only [Rat.intCast_add, Rat.intCast_sub, Rat.intCast_mul, k16, k8])
  · clear q1 q2 q3 q4 r1 r2 r3 r4 u1 u2 v1 v2 ta1 ta2 ta3 ta4 tb1 tb2 tb3 tb4; grind
  · clear q1 q2 q3 q4 r1 r2 r3 r4 u1 u2 v1 v2 ta1 ta2 ta3 ta4 tb1 tb2 tb3 tb4; grind
  · clear p1 p2 p3 p4 r1 r2 r3 r4 v1 v2 ta1 ta2 ta3 ta4 tb1 tb2 tb3 tb4 n1 n2; grind
  · clear p1 p2 p3 p4 r1 r2 r3 r4 v1 v2 ta1 ta2 ta3 ta4 tb1 tb2 tb3 tb4 n1 n2; grind
  · clear p1 p2 p3 p4 q1 q2 q3 q4 u1 u2 ta1 ta2 ta3 ta4 tb1 tb2 tb3 tb4 n1 n2; grind
  · clear p1 p2 p3 p4 q1 q2 q3 q4 u1 u2 ta1 ta2 ta3 ta4 tb1 tb2 tb3 tb4 n1 n2; grind
end Go.Proofs.YtnjedigjabijcaaDoor
