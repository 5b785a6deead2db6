import Ieee.Arith
namespace Go.Proofs.YtnjedigjabijcaaDoor.SqrtMath
open Ieee

theorem rootFrom_spec (n : Nat) : ∀ (todo root : Nat), root * root ≤ n → n < (root + 2 ^ todo) * (root + 2 ^ todo) →
    Datum.rootFrom n todo root * Datum.rootFrom n todo root ≤ n ∧ n < (Datum.rootFrom n todo root + 1) * (Datum.rootFrom n todo root + 1)
  | 0, root, h1, h2 => by
    unfold Datum.rootFrom
    exact ⟨h1, by simpa using h2⟩
  | todo + 1, root, h1, h2 => by
    unfold Datum.rootFrom
    simp only [Nat.one_shiftLeft]
    split
    · rename_i h
      refine rootFrom_spec n todo _ h ?_
      have e : root + 2 ^ todo + 2 ^ todo = root + 2 ^ (todo + 1) := by rw [Nat.pow_succ]; omega
      rw [e]; exact h2
    · rename_i h
      exact rootFrom_spec n todo root h1 (by omega)

theorem root_spec (n : Nat) : Datum.rootFrom n (n.log2 / 2 + 1) 0 * Datum.rootFrom n (n.log2 / 2 + 1) 0 ≤ n ∧
    n < (Datum.rootFrom n (n.log2 / 2 + 1) 0 + 1) * (Datum.rootFrom n (n.log2 / 2 + 1) 0 + 1) := by
  refine rootFrom_spec n _ 0 (by simp) ?_
  rw [Nat.zero_add, ← Nat.pow_add]
  exact Nat.lt_of_lt_of_le Nat.lt_log2_self (Nat.pow_le_pow_right (by omega) (by omega))

/-- a number of the normal range is read back -/
theorem read_normal (b m : Nat) (hb : b ≤ 2000) (h1 : 2 ^ 52 ≤ m) (h2 : m < 2 ^ 53) :
    double.read (b * double.binade + m) = .number false m (-1074 + (b : Int)) := by
  have hbin : double.binade = 4503599627370496 := by decide
  have hsw : double.signWeight = 9223372036854775808 := by decide
  have hinf : double.infRung = 2047 * 4503599627370496 := by decide
  have hl : double.leastPlace = -1074 := by decide
  unfold Format.read
  simp only [hbin, hsw, hinf, hl]
  have e0 : (b * 4503599627370496 + m) / 9223372036854775808 = 0 := Nat.div_eq_of_lt (by omega)
  have e1 : (b * 4503599627370496 + m) % 9223372036854775808 = b * 4503599627370496 + m := Nat.mod_eq_of_lt (by omega)
  rw [e0, e1, if_neg (by omega), if_pos (by omega)]
  have e2 : (b * 4503599627370496 + m) % 4503599627370496 = m - 4503599627370496 := by omega
  have e3 : (b * 4503599627370496 + m) / 4503599627370496 = b + 1 := by omega
  rw [e2, e3]
  have e4 : 4503599627370496 + (m - 4503599627370496) = m := by omega
  rw [e4]
  simp

theorem log2_eq {m k : Nat} (h1 : 2 ^ k ≤ m) (h2 : m < 2 ^ (k + 1)) : m.log2 = k := by
  have hm : m ≠ 0 := by have := Nat.two_pow_pos k; omega
  have a : k ≤ m.log2 := (Nat.le_log2 hm).2 h1
  have b : m.log2 < k + 1 := (Nat.log2_lt hm).2 h2
  omega


theorem cut_zero (m d : Nat) (h : d ≤ m.log2 + 2) : Toward.zero.cut false m d = m / 2 ^ d := by
  unfold Toward.cut
  simp [Nat.min_eq_left h, Nat.one_shiftLeft]

theorem word_eq (b m : Nat) (hb : b ≤ 1200) (hm : m ≤ 2 ^ 53) :
    double.word false (min (b * 4503599627370496 + m) (2047 * 4503599627370496)) = b * 4503599627370496 + m := by
  unfold Format.word
  simp only [Bool.false_eq_true, if_false]
  omega

theorem nearest_of (n b m : Nat) (place : Int) (last : Int) (up down : Nat) (h0 : n ≠ 0) (hb : b ≤ 1200) (hm : m ≤ 2 ^ 53)
    (e1 : max (place + (n.log2 : Int) - (52 : Nat)) (-1074) = last) (e2 : (place - last).toNat = up) (e3 : (last - place).toNat = down)
    (e4 : (last - -1074).toNat = b) (d : Toward.even.cut false (n <<< up) down = m) :
    double.nearest false n place = b * double.binade + m := by
  have hbin : double.binade = 4503599627370496 := by decide
  have hinf : double.infRung = 2047 * 4503599627370496 := by decide
  have hl : double.leastPlace = -1074 := by decide
  have hf : double.fractionBits = 52 := rfl
  unfold Format.nearest
  rw [if_neg h0]
  simp only [hl, hf, hbin, hinf]
  rw [e1, e2, e3, e4, d]
  exact word_eq b m hb hm

/-- a multiple of 2^8 below 2^59 is written whole -/
theorem nearest_exact (n : Nat) (h0 : n ≠ 0) (h1 : n < 2 ^ 59) (h2 : n % 256 = 0) :
    ∃ k m : Nat, k ≤ 58 ∧ double.nearest false n 0 = (k + 1022) * double.binade + m ∧ 2 ^ 52 ≤ m ∧ m < 2 ^ 53 ∧ m * 2 ^ k = n * 2 ^ 52 := by
  have hk : n.log2 ≤ 58 := by have := (Nat.log2_lt h0).2 h1; omega
  have lo : 2 ^ n.log2 ≤ n := Nat.log2_self_le h0
  have hi : n < 2 ^ (n.log2 + 1) := Nat.lt_log2_self
  rcases Nat.lt_or_ge 52 n.log2 with hlt | hge
  · obtain ⟨d, hd⟩ : ∃ d, n.log2 = 52 + d := ⟨n.log2 - 52, by omega⟩
    have hd6 : d ≤ 6 := by omega
    have hdiv : n % 2 ^ d = 0 := by
      have : (2 ^ d : Nat) ∣ 2 ^ 8 := Nat.pow_dvd_pow 2 (by omega)
      exact Nat.mod_eq_zero_of_dvd (Nat.dvd_trans this (Nat.dvd_of_mod_eq_zero h2))
    obtain ⟨q, hq⟩ := Nat.dvd_of_mod_eq_zero hdiv
    have hpos : 0 < 2 ^ d := Nat.two_pow_pos d
    have hq1 : n / 2 ^ d = q := by rw [hq]; exact Nat.mul_div_cancel_left q hpos
    have hql : 2 ^ 52 ≤ q := by
      rw [hd, Nat.pow_add, hq, Nat.mul_comm] at lo
      exact Nat.le_of_mul_le_mul_left lo hpos
    have hqh : q < 2 ^ 53 := by
      rw [hd, show 52 + d + 1 = d + 53 from by omega, Nat.pow_add, hq] at hi
      exact Nat.lt_of_mul_lt_mul_left hi
    refine ⟨n.log2, q, hk, ?_, hql, hqh, ?_⟩
    · refine nearest_of n _ q 0 d 0 d h0 (by omega) (Nat.le_of_lt hqh) (by omega) (by omega) (by omega) (by omega) ?_
      rw [Nat.shiftLeft_zero]
      unfold Toward.cut
      have e3 : min d (n.log2 + 2) = d := Nat.min_eq_left (by omega)
      simp only [e3, Nat.one_shiftLeft, hdiv, hq1]
      have e4 : decide (2 ^ d < 2 * 0) = false := by simp
      have e5 : (2 ^ d == 2 * 0) = false := by simp
      rw [e4, e5]; simp
    · rw [hd, hq, Nat.pow_add, Nat.mul_comm (2 ^ 52), ← Nat.mul_assoc, Nat.mul_comm q]
  · obtain ⟨d, hd⟩ : ∃ d, 52 = n.log2 + d := ⟨52 - n.log2, by omega⟩
    have hpos : 0 < 2 ^ d := Nat.two_pow_pos d
    have hql : 2 ^ 52 ≤ n * 2 ^ d := by rw [hd, Nat.pow_add]; exact Nat.mul_le_mul_right _ lo
    have hqh : n * 2 ^ d < 2 ^ 53 := by
      rw [show 53 = n.log2 + 1 + d from by omega, Nat.pow_add]; exact Nat.mul_lt_mul_of_pos_right hi hpos
    refine ⟨n.log2, n * 2 ^ d, hk, ?_, hql, hqh, ?_⟩
    · refine nearest_of n _ _ 0 (-(d : Int)) d 0 h0 (by omega) (Nat.le_of_lt hqh) (by omega) (by omega) (by omega) (by omega) ?_
      rw [Nat.shiftLeft_eq]
      unfold Toward.cut
      simp [Nat.mod_one]
    · rw [Nat.mul_assoc, ← Nat.pow_add, show d + n.log2 = 52 from by omega]

/-- The greatest number whose square is not above n. -/
def IsRoot (r n : Nat) : Prop := r * r ≤ n ∧ n < (r + 1) * (r + 1)

theorem root_low (N whole : Nat) (h : 2 ^ 108 ≤ N) (r2 : N < (whole + 1) * (whole + 1)) : 2 ^ 54 ≤ whole := by
  apply Nat.le_of_lt_succ
  apply Nat.mul_self_lt_mul_self_iff.1
  have e : (2 : Nat) ^ 54 * 2 ^ 54 = 2 ^ 108 := by rw [← Nat.pow_add]
  rw [e]
  exact Nat.lt_of_le_of_lt h r2

theorem root_high (N whole : Nat) (h : N < 2 ^ 110) (r1 : whole * whole ≤ N) : whole < 2 ^ 55 := by
  apply Nat.mul_self_lt_mul_self_iff.1
  have e : (2 : Nat) ^ 55 * 2 ^ 55 = 2 ^ 110 := by rw [← Nat.pow_add]
  rw [e]
  exact Nat.lt_of_le_of_lt r1 h

theorem scaled_bounds (m c : Nat) (h1 : 2 ^ 52 ≤ m) (h2 : m < 2 ^ 53) (hc : 56 ≤ c) (hc2 : c ≤ 57) : 2 ^ 108 ≤ m * 2 ^ c ∧ m * 2 ^ c < 2 ^ 110 := by
  constructor
  · have e : (2 : Nat) ^ 108 = 2 ^ 52 * 2 ^ 56 := by rw [← Nat.pow_add]
    rw [e]
    exact Nat.mul_le_mul h1 (Nat.pow_le_pow_right (by omega) hc)
  · have e : (2 : Nat) ^ 110 = 2 ^ 53 * 2 ^ 57 := by rw [← Nat.pow_add]
    rw [e]
    exact Nat.lt_of_lt_of_le (Nat.mul_lt_mul_of_pos_right h2 (Nat.two_pow_pos _)) (Nat.mul_le_mul_left _ (Nat.pow_le_pow_right (by omega) hc2))

theorem root_facts (m k : Nat) (h1 : 2 ^ 52 ≤ m) (h2 : m < 2 ^ 53) :
    ∃ whole st : Nat, st ≤ 1 ∧ 2 ^ 54 ≤ whole ∧ whole < 2 ^ 55 ∧ whole * whole ≤ m * 2 ^ (56 + k % 2) ∧ m * 2 ^ (56 + k % 2) < (whole + 1) * (whole + 1) ∧
      (Datum.number false m ((k : Int) - 52)).root 54 = some (.number false (2 * whole + st) ((k / 2 : Nat) - 55 : Int)) := by
  have hlog : m.log2 = 52 := log2_eq h1 h2
  obtain ⟨b1, b2⟩ := scaled_bounds m (56 + k % 2) h1 h2 (by omega) (by omega)
  obtain ⟨r1, r2⟩ := root_spec (m * 2 ^ (56 + k % 2))
  have hm0 : m ≠ 0 := by omega
  refine ⟨Datum.rootFrom (m * 2 ^ (56 + k % 2)) ((m * 2 ^ (56 + k % 2)).log2 / 2 + 1) 0,
    (Datum.rootFrom (m * 2 ^ (56 + k % 2)) ((m * 2 ^ (56 + k % 2)).log2 / 2 + 1) 0 * Datum.rootFrom (m * 2 ^ (56 + k % 2)) ((m * 2 ^ (56 + k % 2)).log2 / 2 + 1) 0 != m * 2 ^ (56 + k % 2)).toNat,
    Bool.toNat_le _, root_low _ _ b1 r2, root_high _ _ b2 r1, r1, r2, ?_⟩
  unfold Datum.root
  simp only [hm0, if_false, Bool.false_eq_true, hlog]
  have e1 : 2 * 54 - 52 + (((k : Int) - 52 - ((2 * 54 - 52 : Nat) : Int)) % 2).toNat = 56 + k % 2 := by omega
  rw [e1]
  simp only [Nat.shiftLeft_eq]
  have e2 : ((k : Int) - 52 - ((56 + k % 2 : Nat) : Int)) / 2 - 1 = ((k / 2 : Nat) - 55 : Int) := by omega
  rw [e2]

theorem cut_three (mag whole st : Nat) (hm : mag = 2 * whole + st) (hst : st ≤ 1) (hmag : mag.log2 = 55) :
    ∃ kept : Nat, Toward.even.cut false mag 3 = kept ∧ whole / 4 ≤ kept ∧ kept ≤ whole / 4 + 1 := by
  unfold Toward.cut
  simp only [hmag]
  have e : 1 <<< min 3 (55 + 2) = 8 := by decide
  rw [e]
  have e8 : mag / 8 = whole / 4 := by omega
  rw [e8]
  refine ⟨_, rfl, Nat.le_add_right _ _, Nat.add_le_add_left (Bool.toNat_le _) _⟩

theorem to_int (j kept s : Nat) (hj : s + j = 52) (h1 : 2 ^ 52 ≤ kept) (h2 : kept < 2 ^ 53) :
    (double.read ((j + 1022) * double.binade + kept)).toInt .zero = some ((kept / 2 ^ s : Nat) : Int) := by
  rw [read_normal _ _ (by omega) h1 h2]
  have hkl : kept.log2 = 52 := log2_eq h1 h2
  unfold Datum.toInt Datum.integral
  have e1 : (-1074 + ((j + 1022 : Nat) : Int)).toNat = 0 := by omega
  have e2 : (-(-1074 + ((j + 1022 : Nat) : Int))).toNat = s := by omega
  simp only [e1, e2, Nat.shiftLeft_zero]
  rw [cut_zero _ _ (by omega)]
  simp [signed]

theorem to_int_top (j s : Nat) (hj : s + j = 52) (hs : 1 ≤ s) :
    (double.read ((j + 1022) * double.binade + 2 ^ 53)).toInt .zero = some ((2 ^ 53 / 2 ^ s : Nat) : Int) := by
  have hbin : double.binade = 2 ^ 52 := rfl
  have e0 : (j + 1022) * double.binade + 2 ^ 53 = (j + 1 + 1022) * double.binade + 2 ^ 52 := by
    rw [hbin, show (2 : Nat) ^ 53 = 2 ^ 52 + 2 ^ 52 from by rw [Nat.pow_succ, Nat.mul_two]]
    generalize 2 ^ 52 = B
    rw [show j + 1 + 1022 = (j + 1022) + 1 from by omega, Nat.add_mul (j + 1022) 1]
    omega
  rw [e0, to_int (j + 1) (2 ^ 52) (s - 1) (by omega) (Nat.le_refl _) (Nat.pow_lt_pow_right (by omega) (by omega))]
  congr 2
  rw [Nat.pow_div (by omega) (by omega), Nat.pow_div (by omega) (by omega)]
  congr 1
  omega

theorem scale_eq (n m k s : Nat) (hs : s + k / 2 = 52) (hmk : m * 2 ^ k = n * 2 ^ 52) :
    m * 2 ^ (56 + k % 2) = n * (2 ^ (s + 2) * 2 ^ (s + 2)) := by
  apply Nat.eq_of_mul_eq_mul_right (Nat.two_pow_pos k)
  calc m * 2 ^ (56 + k % 2) * 2 ^ k = m * 2 ^ k * 2 ^ (56 + k % 2) := by rw [Nat.mul_right_comm]
    _ = n * 2 ^ 52 * 2 ^ (56 + k % 2) := by rw [hmk]
    _ = n * 2 ^ (52 + (56 + k % 2)) := by rw [Nat.mul_assoc, ← Nat.pow_add]
    _ = n * 2 ^ (s + 2 + (s + 2) + k) := by rw [show 52 + (56 + k % 2) = s + 2 + (s + 2) + k from by omega]
    _ = n * (2 ^ (s + 2) * 2 ^ (s + 2)) * 2 ^ k := by rw [Nat.mul_assoc, Nat.pow_add, Nat.pow_add 2 (s + 2)]

theorem whole_root (n whole P : Nat) (hP : 0 < P) (hq1 : whole * whole ≤ n * (P * P)) (hq2 : n * (P * P) < (whole + 1) * (whole + 1)) : IsRoot (whole / P) n := by
  have hd1 : whole / P * P ≤ whole := Nat.div_mul_le_self _ _
  have hd2 : whole + 1 ≤ (whole / P + 1) * P := by have := Nat.lt_div_mul_add (a := whole) hP; rw [Nat.add_mul]; omega
  generalize whole / P = R at *
  constructor
  · apply Nat.le_of_mul_le_mul_right (c := P * P) _ (Nat.mul_pos hP hP)
    calc R * R * (P * P) = R * P * (R * P) := by simp only [Nat.mul_comm, Nat.mul_left_comm]
      _ ≤ whole * whole := Nat.mul_le_mul hd1 hd1
      _ ≤ _ := hq1
  · apply Nat.lt_of_mul_lt_mul_right (a := P * P)
    calc n * (P * P) < (whole + 1) * (whole + 1) := hq2
      _ ≤ (R + 1) * P * ((R + 1) * P) := Nat.mul_le_mul hd2 hd2
      _ = (R + 1) * (R + 1) * (P * P) := by generalize R + 1 = Q; simp only [Nat.mul_comm, Nat.mul_left_comm]

theorem kept_root (whole kept s : Nat) (hk2 : whole / 4 ≤ kept) (hk3 : kept ≤ whole / 4 + 1) :
    kept / 2 ^ s = whole / 2 ^ (s + 2) ∨ kept / 2 ^ s = whole / 2 ^ (s + 2) + 1 := by
  have e1 : whole / 2 ^ (s + 2) = whole / 4 / 2 ^ s := by rw [Nat.div_div_eq_div_mul, Nat.pow_add, Nat.mul_comm]
  rw [e1]
  have a1 : whole / 4 / 2 ^ s ≤ kept / 2 ^ s := Nat.div_le_div_right hk2
  have a2 : kept / 2 ^ s ≤ (whole / 4 + 1) / 2 ^ s := Nat.div_le_div_right hk3
  have hP : 0 < 2 ^ s := Nat.two_pow_pos _
  have a3 : (whole / 4 + 1) / 2 ^ s ≤ whole / 4 / 2 ^ s + 1 := by
    rw [← Nat.add_div_right _ hP]
    exact Nat.div_le_div_right (by omega)
  omega

/-- The float's way to a root ends at the root or one above it. -/
theorem sqrt_way (n : Nat) (h0 : n ≠ 0) (h1 : n < 2 ^ 59) (h2 : n % 256 = 0) :
    ∃ y r R : Nat, double.sqrt (double.nearest false n 0) = some y ∧ (double.read y).toInt .zero = some (r : Int) ∧ IsRoot R n ∧ (r = R ∨ r = R + 1) := by
  obtain ⟨k, m, hk, hw, hm1, hm2, hmk⟩ := nearest_exact n h0 h1 h2
  have hr := read_normal (k + 1022) m (by omega) hm1 hm2
  rw [← hw, show (-1074 + ((k + 1022 : Nat) : Int)) = (k : Int) - 52 from by omega] at hr
  obtain ⟨whole, st, hst, hw1, hw2, hq1, hq2, hroot⟩ := root_facts m k hm1 hm2
  have hmag : (2 * whole + st).log2 = 55 := log2_eq (by omega) (by omega)
  obtain ⟨kept, hk1, hk2, hk3⟩ := cut_three _ whole st rfl hst hmag
  have hkept1 : 2 ^ 52 ≤ kept := by omega
  have hkept2 : kept ≤ 2 ^ 53 := by omega
  have hsq : double.sqrt (double.nearest false n 0) = some ((k / 2 + 1022) * double.binade + kept) := by
    unfold Format.sqrt
    rw [hr, show double.fractionBits + 2 = 54 from rfl, hroot]
    exact congrArg some (nearest_of (2 * whole + st) (k / 2 + 1022) kept ((k / 2 : Nat) - 55 : Int) ((k / 2 : Nat) - 52 : Int) 0 3 (by omega) (by omega) hkept2 (by omega) (by omega) (by omega) (by omega) (by rw [Nat.shiftLeft_zero]; exact hk1))
  obtain ⟨s, hs⟩ : ∃ s, s + k / 2 = 52 := ⟨52 - k / 2, by omega⟩
  have hto : (double.read ((k / 2 + 1022) * double.binade + kept)).toInt .zero = some ((kept / 2 ^ s : Nat) : Int) := by
    rcases Nat.lt_or_ge kept (2 ^ 53) with hlt | hge
    · exact to_int _ _ _ hs hkept1 hlt
    · have hke : kept = 2 ^ 53 := Nat.le_antisymm hkept2 hge
      rw [hke]
      exact to_int_top _ _ hs (by omega)
  rw [scale_eq n m k s hs hmk] at hq1 hq2
  exact ⟨_, _, _, hsq, hto, whole_root n whole _ (Nat.two_pow_pos _) hq1 hq2, kept_root whole kept s hk2 hk3⟩

end Go.Proofs.YtnjedigjabijcaaDoor.SqrtMath
