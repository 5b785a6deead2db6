/-
Plain numbers alone: the program's fractions rise with the angle.
-/
import Derived.Test.YtnjedigjabijcaaDoorPlain
namespace Go.Proofs.YtnjedigjabijcaaDoor

theorem step_up (q d S S' W : Nat) (hq : q ≤ W) (hS' : S' ≤ W) (h1 : S' ≤ S + 2) : (q + d) * S' / W ≤ q * S / W + d + 2 := by
  rcases Nat.eq_zero_or_pos W with h | h
  · subst h; simp
  have e : (q + d) * S' ≤ q * S + (d + 2) * W := by
    calc (q + d) * S' = q * S' + d * S' := Nat.add_mul _ _ _
      _ ≤ q * (S + 2) + d * W := Nat.add_le_add (Nat.mul_le_mul_left _ h1) (Nat.mul_le_mul_left _ hS')
      _ = q * S + q * 2 + d * W := by rw [Nat.mul_add]
      _ ≤ q * S + W * 2 + d * W := by have := Nat.mul_le_mul_right 2 hq; omega
      _ = q * S + (d + 2) * W := by rw [Nat.add_mul, Nat.mul_comm W 2]; omega
  calc (q + d) * S' / W ≤ (q * S + (d + 2) * W) / W := Nat.div_le_div_right e
    _ = q * S / W + (d + 2) := Nat.add_mul_div_right _ _ h
    _ = q * S / W + d + 2 := by omega

theorem step_down (q d S S' W : Nat) (hq : q ≤ W) (h2 : 2 * S ≤ 2 * S' + d + 4) (h3 : W ≤ 2 * S') : q * S / W ≤ (q + d) * S' / W + 2 := by
  rcases Nat.eq_zero_or_pos W with h | h
  · subst h; simp
  have e : q * S ≤ (q + d) * S' + 2 * W := by
    have a : q * (2 * S) ≤ q * (2 * S' + d + 4) := Nat.mul_le_mul_left _ h2
    have b : q * d ≤ 2 * S' * d := Nat.mul_le_mul_right _ (Nat.le_trans hq h3)
    have a1 : q * (2 * S) = 2 * (q * S) := by rw [Nat.mul_left_comm]
    have a2 : q * (2 * S' + d + 4) = 2 * (q * S') + q * d + 4 * q := by rw [Nat.mul_add, Nat.mul_add, Nat.mul_left_comm, Nat.mul_comm q 4]
    have b1 : 2 * S' * d = 2 * (d * S') := by rw [Nat.mul_assoc, Nat.mul_comm S' d]
    rw [a1, a2] at a
    rw [b1] at b
    rw [Nat.add_mul]
    omega
  calc q * S / W ≤ ((q + d) * S' + 2 * W) / W := Nat.div_le_div_right e
    _ = (q + d) * S' / W + 2 := Nat.add_mul_div_right _ _ h

theorem div_sub_up (P P' d c : Nat) (hc : 2 ≤ c) (h : P' ≤ P + d + 2) : 2 * (P' / c) ≤ 2 * (P / c) + d + 4 := by
  have h0 : 0 < c := by omega
  have a : P' / c ≤ (P + (d + 2)) / c := Nat.div_le_div_right (by omega)
  have b : (P + (d + 2)) / c ≤ P / c + (d + 2) / c + 1 := by
    apply Nat.le_of_lt_succ
    rw [Nat.div_lt_iff_lt_mul h0]
    have p1 := Nat.lt_div_mul_add (a := P) h0
    have p2 := Nat.lt_div_mul_add (a := d + 2) h0
    have e : (P / c + (d + 2) / c + 1 + 1) * c = P / c * c + (d + 2) / c * c + c + c := by
      rw [Nat.add_mul, Nat.add_mul, Nat.add_mul, Nat.one_mul]
    show P + (d + 2) < (P / c + (d + 2) / c + 1 + 1) * c
    rw [e]; omega
  have c1 : 2 * ((d + 2) / c) ≤ d + 2 := by
    have := Nat.div_mul_le_self (d + 2) c
    have : (d + 2) / c * 2 ≤ (d + 2) / c * c := Nat.mul_le_mul_left _ hc
    omega
  omega

theorem div_sub_down (P P' c : Nat) (hc : 2 ≤ c) (h : P ≤ P' + 2) : P / c ≤ P' / c + 1 := by
  have h0 : 0 < c := by omega
  calc P / c ≤ (P' + c) / c := Nat.div_le_div_right (by omega)
    _ = P' / c + 1 := Nat.add_div_right _ h0

theorem coef_ge (m : Nat) (h : 2 ≤ m) : 2 ≤ m * (m - 1) := by
  have : 2 * 1 ≤ m * (m - 1) := Nat.mul_le_mul h (by omega)
  omega

/-- Of a greater square the series is hardly greater, and not much less. -/
theorem ser_pair (q d last : Nat) (hq : q + d ≤ 9223372036854775808) : ∀ j : Nat, 2 * j ≤ last →
    serK (q + d) last j ≤ serK q last j + 2 ∧ 2 * serK q last j ≤ 2 * serK (q + d) last j + d + 4 ∧ 9223372036854775808 ≤ 2 * serK q last j ∧ 9223372036854775808 ≤ 2 * serK (q + d) last j
  | 0, _ => by
    have e : ∀ x, serK x last 0 = 9223372036854775808 := fun _ => rfl
    rw [e, e]; omega
  | j + 1, hj => by
    obtain ⟨i1, i2, i3, i4⟩ := ser_pair q d last hq j (by omega)
    have l1 := serK_le q last j
    have l2 := serK_le (q + d) last j
    have c2 := coef_ge (last - 2 * j) (by omega)
    have e : ∀ x, serK x last (j + 1) = 9223372036854775808 - prodN x (serK x last j) / ((last - 2 * j) * (last - 2 * j - 1)) := fun _ => rfl
    rw [e, e]
    have p1 := prodN_le q (serK q last j) (by omega)
    have p2 := prodN_le (q + d) (serK (q + d) last j) hq
    have u := step_up q d (serK q last j) (serK (q + d) last j) 9223372036854775808 (by omega) l2 i1
    have v := step_down q d (serK q last j) (serK (q + d) last j) 9223372036854775808 (by omega) i2 i4
    change prodN (q + d) (serK (q + d) last j) ≤ prodN q (serK q last j) + d + 2 at u
    change prodN q (serK q last j) ≤ prodN (q + d) (serK (q + d) last j) + 2 at v
    generalize (last - 2 * j) * (last - 2 * j - 1) = c at *
    have s1 := div_sub_up _ _ d c c2 u
    have s2 := div_sub_down _ _ c c2 v
    have k1 : prodN q (serK q last j) / c ≤ prodN q (serK q last j) / 2 := Nat.div_le_div_left c2 (by omega)
    have k2 : prodN (q + d) (serK (q + d) last j) / c ≤ prodN (q + d) (serK (q + d) last j) / 2 := Nat.div_le_div_left c2 (by omega)
    omega

theorem div_add_le (x y c : Nat) (hc : 0 < c) : x / c + y / c ≤ (x + y) / c := by
  rw [Nat.le_div_iff_mul_le hc, Nat.add_mul]
  exact Nat.add_le_add (Nat.div_mul_le_self _ _) (Nat.div_mul_le_self _ _)
theorem radN_add (a k : Nat) : radN a + radN k ≤ radN (a + k) := by
  have h := div_add_le (a * 10803064813898918630) (k * 10803064813898918630) 67108864 (by omega)
  rw [← Nat.add_mul] at h
  exact h
theorem radN_one : radN 1 = 160978210179 := by decide +kernel
theorem radN_pos (k : Nat) (h : 1 ≤ k) : 160978210179 ≤ radN k := by
  have := radN_add (k - 1) 1
  rw [show k - 1 + 1 = k by omega, radN_one] at this
  omega

/-- How far the squares of two numbers are apart. -/
theorem sq_gap (r t W : Nat) (hW : 0 < W) : r * r / W ≤ (r + t) * (r + t) / W ∧ ((r + t) * (r + t) / W - r * r / W) * W ≤ t * (2 * r + t) + W ∧ t * (2 * r + t) ≤ ((r + t) * (r + t) / W - r * r / W) * W + W := by
  have e : (r + t) * (r + t) = r * r + t * (2 * r + t) := by
    rw [Nat.add_mul, Nat.mul_add, Nat.mul_add, Nat.mul_add, Nat.mul_left_comm t 2 r, Nat.mul_comm t r]; omega
  rw [e]
  generalize r * r = x
  generalize t * (2 * r + t) = y
  have a1 := Nat.div_mul_le_self x W
  have a2 := Nat.lt_div_mul_add (a := x) hW
  have b1 := Nat.div_mul_le_self (x + y) W
  have b2 := Nat.lt_div_mul_add (a := x + y) hW
  have c : x / W ≤ (x + y) / W := Nat.div_le_div_right (by omega)
  refine ⟨c, ?_, ?_⟩ <;> rw [Nat.sub_mul] <;> omega

/-- The sine's product rises. -/
theorem prod_rise (r t d S S' W : Nat) (ht : 10 ≤ t) (hr : 10000 * r ≤ 7855 * W) (hd : 100 * d ≤ 158 * t + 100) (h2 : 2 * S ≤ 2 * S' + d + 4) (h6 : 5 * W ≤ 6 * S') : r * S ≤ (r + t) * S' := by
  -- 2 r S <= 2 r S' + r (d + 4), and r (d + 4) <= 2 t S'
  have a : r * (2 * S) ≤ r * (2 * S' + (d + 4)) := Nat.mul_le_mul_left _ (by omega)
  have key : r * (d + 4) ≤ 2 * (t * S') := by
    have k1 : 10000 * r * (100 * (d + 4)) ≤ 7855 * W * (158 * t + 500) := Nat.mul_le_mul hr (by omega)
    have k2 : 7855 * W * (158 * t + 500) * 3 ≤ 5000000 * (W * t) := by
      have m1 : 7855 * W * (158 * t + 500) * 3 = 3723270 * (W * t) + 11782500 * W := by
        rw [Nat.mul_add]
        have x1 : 7855 * W * (158 * t) = 1241090 * (W * t) := by rw [Nat.mul_mul_mul_comm]
        rw [x1]; omega
      have m2 : W * 10 ≤ W * t := Nat.mul_le_mul_left _ ht
      rw [m1]; omega
    have k3 : t * (5 * W) ≤ t * (6 * S') := Nat.mul_le_mul_left _ h6
    have e1 : 10000 * r * (100 * (d + 4)) = 1000000 * (r * (d + 4)) := by rw [Nat.mul_mul_mul_comm]
    have e2 : t * (5 * W) = 5 * (W * t) := by rw [Nat.mul_left_comm, Nat.mul_comm t W]
    have e3 : t * (6 * S') = 6 * (t * S') := by rw [Nat.mul_left_comm]
    rw [e1] at k1
    rw [e2, e3] at k3
    omega
  have e4 : r * (2 * S) = 2 * (r * S) := by rw [Nat.mul_left_comm]
  have e5 : r * (2 * S' + (d + 4)) = 2 * (r * S') + r * (d + 4) := by rw [Nat.mul_add, Nat.mul_left_comm]
  rw [e4, e5] at a
  rw [Nat.add_mul]
  omega

/-- The cosine's product rises with the square. -/
theorem prod_rise2 (q d S S' W : Nat) (hd : 5 ≤ d) (hq : q ≤ W) (h2 : 2 * S ≤ 2 * S' + d + 4) (h12 : 11 * W ≤ 12 * S') : q * S ≤ (q + d) * S' := by
  have a : q * (2 * S) ≤ q * (2 * S' + (d + 4)) := Nat.mul_le_mul_left _ (by omega)
  have key : q * (d + 4) ≤ 2 * (d * S') := by
    have k1 : q * (d + 4) ≤ W * (d + 4) := Nat.mul_le_mul_right _ hq
    have k2 : d * (11 * W) ≤ d * (12 * S') := Nat.mul_le_mul_left _ h12
    have k3 : W * 5 ≤ W * d := Nat.mul_le_mul_left _ hd
    have e1 : W * (d + 4) = W * d + W * 4 := Nat.mul_add _ _ _
    have e2 : d * (11 * W) = 11 * (W * d) := by rw [Nat.mul_left_comm, Nat.mul_comm d W]
    have e3 : d * (12 * S') = 12 * (d * S') := by rw [Nat.mul_left_comm]
    rw [e1] at k1
    rw [e2, e3] at k2
    omega
  have e4 : q * (2 * S) = 2 * (q * S) := by rw [Nat.mul_left_comm]
  have e5 : q * (2 * S' + (d + 4)) = 2 * (q * S') + q * (d + 4) := by rw [Nat.mul_add, Nat.mul_left_comm]
  rw [e4, e5] at a
  rw [Nat.add_mul]
  omega

theorem ser_last21 (q : Nat) (hq : q ≤ 9223372036854775808) : 5 * 9223372036854775808 ≤ 6 * serK q 21 10 := by
  have e : serK q 21 10 = 9223372036854775808 - prodN q (serK q 21 9) / 6 := rfl
  have := prodN_le q (serK q 21 9) hq
  have := serK_le q 21 9
  rw [e]; omega
theorem ser_last20 (q : Nat) (hq : q ≤ 9223372036854775808) : 11 * 9223372036854775808 ≤ 12 * serK q 20 9 := by
  have e : serK q 20 9 = 9223372036854775808 - prodN q (serK q 20 8) / 12 := rfl
  have := prodN_le q (serK q 20 8) hq
  have := serK_le q 20 8
  rw [e]; omega

/-- From 0 to 45 degrees. -/
theorem sine_rise (a k : Nat) (hk : 1 ≤ k) (h : a + k ≤ 45000000) :
    prodN (radN a) (serK (prodN (radN a) (radN a)) 21 10) ≤ prodN (radN (a + k)) (serK (prodN (radN (a + k)) (radN (a + k))) 21 10) := by
  have h1 := radN_add a k
  have h2 := radN_pos k hk
  have h3 := radN_le (a + k) h
  obtain ⟨t, ht⟩ : ∃ t, radN (a + k) = radN a + t := ⟨radN (a + k) - radN a, by omega⟩
  rw [ht] at h1 h3 ⊢
  generalize radN a = r at *
  obtain ⟨g1, g2, _⟩ := sq_gap r t 9223372036854775808 (by omega)
  obtain ⟨d, hd⟩ : ∃ d, prodN (r + t) (r + t) = prodN r r + d := ⟨prodN (r + t) (r + t) - prodN r r, by unfold prodN; omega⟩
  have hq := prodN_le' (r + t) (r + t) (by omega)
  have g2' : d * 9223372036854775808 ≤ t * (2 * r + t) + 9223372036854775808 := by
    have e : d = (r + t) * (r + t) / 9223372036854775808 - r * r / 9223372036854775808 := by unfold prodN at hd; omega
    rw [e]; exact g2
  rw [hd] at hq ⊢
  obtain ⟨s1, s2, s3, s4⟩ := ser_pair (prodN r r) d 21 (by omega) 10 (by omega)
  have s6 := ser_last21 (prodN r r + d) (by omega)
  have hb : t * (2 * r + t) ≤ t * 14488038916154245686 := Nat.mul_le_mul_left _ (by omega)
  have := prod_rise r t d (serK (prodN r r) 21 10) (serK (prodN r r + d) 21 10) 9223372036854775808 (by omega) (by omega) (by omega) s2 s6
  exact Nat.div_le_div_right this

/-- From 45 to 90 degrees: the cosine of what is left. -/
theorem cosine_fall (b k : Nat) (hk : 1 ≤ k) (h : b + k ≤ 45000000) : serK (prodN (radN (b + k)) (radN (b + k))) 20 10 ≤ serK (prodN (radN b) (radN b)) 20 10 := by
  have h1 := radN_add b k
  have h2 := radN_pos k hk
  have h3 := radN_le (b + k) h
  obtain ⟨t, ht⟩ : ∃ t, radN (b + k) = radN b + t := ⟨radN (b + k) - radN b, by omega⟩
  rw [ht] at h1 h3 ⊢
  generalize radN b = r at *
  obtain ⟨g1, _, g2⟩ := sq_gap r t 9223372036854775808 (by omega)
  obtain ⟨d, hd⟩ : ∃ d, prodN (r + t) (r + t) = prodN r r + d := ⟨prodN (r + t) (r + t) - prodN r r, by unfold prodN; omega⟩
  have hq := prodN_le' (r + t) (r + t) (by omega)
  have g2' : t * (2 * r + t) ≤ d * 9223372036854775808 + 9223372036854775808 := by
    have e : d = (r + t) * (r + t) / 9223372036854775808 - r * r / 9223372036854775808 := by unfold prodN at hd; omega
    rw [e]; exact g2
  rw [hd] at hq ⊢
  have ht2 : 160978210179 * 160978210179 ≤ t * (2 * r + t) := Nat.mul_le_mul (by omega) (by omega)
  obtain ⟨s1, s2, s3, s4⟩ := ser_pair (prodN r r) d 20 (by omega) 9 (by omega)
  have s6 := ser_last20 (prodN r r + d) (by omega)
  have := prod_rise2 (prodN r r) d (serK (prodN r r) 20 9) (serK (prodN r r + d) 20 9) 9223372036854775808 (by omega) (by omega) s2 s6
  have hp : prodN (prodN r r) (serK (prodN r r) 20 9) ≤ prodN (prodN r r + d) (serK (prodN r r + d) 20 9) := Nat.div_le_div_right this
  have e : ∀ x, serK x 20 10 = 9223372036854775808 - prodN x (serK x 20 9) / 2 := fun _ => rfl
  rw [e, e]
  omega

theorem frac_low (a : Nat) (h : a ≤ 45000000) : fracN a = prodN (radN a) (serK (prodN (radN a) (radN a)) 21 10) := by unfold fracN; rw [if_neg (by omega)]
theorem frac_high (a : Nat) (h : 45000000 < a) : fracN a = serK (prodN (radN (90000000 - a)) (radN (90000000 - a))) 20 10 := by unfold fracN; rw [if_pos h]
theorem frac_mid : fracN 45000000 ≤ fracN 45000001 := by decide +kernel

theorem frac_mono (a b : Nat) (h : a ≤ b) (hb : b ≤ 90000000) : fracN a ≤ fracN b := by
  have low : ∀ a b, a ≤ b → b ≤ 45000000 → fracN a ≤ fracN b := by
    intro a b h hb
    rcases Nat.eq_or_lt_of_le h with e | e
    · rw [e]; exact Nat.le_refl _
    · rw [frac_low a (by omega), frac_low b hb]
      have := sine_rise a (b - a) (by omega) (by omega)
      rwa [show a + (b - a) = b by omega] at this
  have high : ∀ a b, 45000000 < a → a ≤ b → b ≤ 90000000 → fracN a ≤ fracN b := by
    intro a b ha h hb
    rcases Nat.eq_or_lt_of_le h with e | e
    · rw [e]; exact Nat.le_refl _
    · rw [frac_high a ha, frac_high b (by omega)]
      have := cosine_fall (90000000 - b) (b - a) (by omega) (by omega)
      rwa [show 90000000 - b + (b - a) = 90000000 - a by omega] at this
  rcases Nat.lt_or_ge 45000000 a with ha | ha
  · exact high a b ha h hb
  · rcases Nat.lt_or_ge 45000000 b with hb2 | hb2
    · exact Nat.le_trans (low a 45000000 ha (Nat.le_refl _)) (Nat.le_trans frac_mid (high 45000001 b (by omega) (by omega) hb))
    · exact low a b h hb2

theorem hun_mono (f g : Nat) (h : f ≤ g) : hunN f ≤ hunN g := Nat.div_le_div_right (Nat.mul_le_mul_right _ h)
theorem hun_third1 : hunN (fracN 29999999) = 49999998 := by decide +kernel
theorem hun_third2 : hunN (fracN 30000001) = 50000001 := by decide +kernel
theorem hun_right : hunN (fracN 89999999) = 99999999 := by decide +kernel

theorem quarter_mono (a b : Int) (h0 : 0 ≤ a) (h : a ≤ b) (hb : b ≤ 90000000) : (quarter a).1 ≤ (quarter b).1 ∧ (quarter a).2 ≤ (quarter b).2 := by
  rcases Int.lt_or_eq_of_le h with hlt | he
  · have f1 : hunN (fracN a.toNat) ≤ hunN (fracN b.toNat) := hun_mono _ _ (frac_mono _ _ (by omega) (by omega))
    have f2 : b ≤ 29999999 → hunN (fracN b.toNat) ≤ 49999998 := fun hh => by rw [← hun_third1]; exact hun_mono _ _ (frac_mono _ _ (by omega) (by omega))
    have f3 : a ≤ 29999999 → hunN (fracN a.toNat) ≤ 49999998 := fun hh => by rw [← hun_third1]; exact hun_mono _ _ (frac_mono _ _ (by omega) (by omega))
    have f4 : 30000001 ≤ b → 50000001 ≤ hunN (fracN b.toNat) := fun hh => by rw [← hun_third2]; exact hun_mono _ _ (frac_mono _ _ (by omega) (by omega))
    have f5 : a ≤ 89999999 → hunN (fracN a.toNat) ≤ 99999999 := fun hh => by rw [← hun_right]; exact hun_mono _ _ (frac_mono _ _ (by omega) (by omega))
    unfold quarter
    repeat' split
    all_goals (simp only; omega)
  · rw [he]; exact ⟨Int.le_refl _, Int.le_refl _⟩
/-- An enclosure of a sine has ends from 0 to 1, and is at most one unit wide. -/
theorem quarter_top (a : Int) (h0 : 0 ≤ a) (h : a ≤ 90000000) : 0 ≤ (quarter a).1 ∧ (quarter a).1 ≤ (quarter a).2 ∧ (quarter a).2 ≤ (quarter a).1 + 1 ∧ (quarter a).2 ≤ 100000000 := by
  have f5 : a ≤ 89999999 → hunN (fracN a.toNat) ≤ 99999999 := fun hh => by rw [← hun_right]; exact hun_mono _ _ (frac_mono _ _ (by omega) (by omega))
  unfold quarter
  repeat' split
  all_goals (simp only; omega)
end Go.Proofs.YtnjedigjabijcaaDoor
