import Derived.Test.YtnjedigjabijcaaDoorWrite
namespace Go.Proofs.YtnjedigjabijcaaDoor
open Go Go.RowKit

def digB (c : UInt8) : Bool := decide (48 ≤ (c.toNat : Int)) && decide ((c.toNat : Int) ≤ 57)
/-- The number that digits stand for. -/
def numI (l : List UInt8) : Int := l.foldl (fun n c => 10 * n + ((c.toNat : Int) - 48)) 0
def digsB (l : List UInt8) (most : Nat) : Bool := l.all digB && decide (1 ≤ l.length) && decide (l.length ≤ most)
/-- Degrees with an optional fraction, as millionths. -/
def sizeE (l : List UInt8) : Option Int :=
  if digsB (Lib.cut l [46]).1 3 && (!(Lib.cut l [46]).2.2 || digsB (Lib.cut l [46]).2.1 6) then some (numI ((Lib.cut l [46]).1 ++ (Lib.cut l [46]).2.1 ++ List.replicate (6 - (Lib.cut l [46]).2.1.length) 48)) else none
/-- What a letter at the end says: the axis, the sign, and the greatest angle. -/
def markE (l : List UInt8) : Option (Int × Int × Int) :=
  if Lib.hasSuffix l [78] then some (0, 1, 90000000) else if Lib.hasSuffix l [83] then some (0, -1, 90000000) else if Lib.hasSuffix l [69] then some (1, 1, 180000000) else if Lib.hasSuffix l [87] then some (1, -1, 180000000) else none
/-- What Read returns. -/
def readE (l : List UInt8) : Int × Int × Int :=
  if 20 < l.length then (0, 0, 3) else
  match markE l with
  | none => (0, 0, 6)
  | some (k, s, m) => match sizeE (l.take (l.length - 1)) with
    | none => (0, 0, 6)
    | some n => if m < n then (0, 0, 7) else (s * n, k, 0)

theorem numI_snoc (l : List UInt8) (c : UInt8) : numI (l ++ [c]) = 10 * numI l + ((c.toNat : Int) - 48) := by unfold numI; rw [List.foldl_append]; rfl
theorem num_from (l : List UInt8) : ∀ n : Int, l.foldl (fun n c => 10 * n + ((c.toNat : Int) - 48)) n = n * 10 ^ l.length + numI l := by
  induction l with
  | nil => intro n; simp [numI]
  | cons c l ih =>
    intro n
    have e : numI (c :: l) = (10 * 0 + ((c.toNat : Int) - 48)) * 10 ^ l.length + numI l := by
      unfold numI
      rw [List.foldl_cons]
      exact ih _
    rw [List.foldl_cons, ih, e, List.length_cons, Int.pow_succ]
    generalize (10 : Int) ^ l.length = p
    generalize (c.toNat : Int) - 48 = d
    have h1 : n * (p * 10) = 10 * n * p := by rw [Int.mul_comm p 10, ← Int.mul_assoc, Int.mul_comm n 10]
    rw [h1, Int.add_mul, Int.add_mul]
    omega
theorem numI_append (a b : List UInt8) : numI (a ++ b) = numI a * 10 ^ b.length + numI b := by
  have := num_from b (numI a)
  unfold numI at *
  rw [List.foldl_append]
  exact this
theorem digit_byte (u : Nat) (h : u < 10) : (UInt8.ofNat (48 + u)).toNat = 48 + u := by
  rw [UInt8.toNat_ofNat']
  omega
theorem dec_num (u : Nat) : numI (Lib.decDigits u) = u ∧ (Lib.decDigits u).all digB = true := by
  induction u using Nat.strongRecOn with
  | ind u ih =>
    rw [Lib.decDigits]
    split
    · rename_i h
      refine ⟨?_, ?_⟩
      · simp only [numI, List.foldl_cons, List.foldl_nil, digit_byte u h]; omega
      · simp only [List.all_cons, List.all_nil, Bool.and_true, digB, digit_byte u h, Bool.and_eq_true, decide_eq_true_eq]; omega
    · rename_i h
      obtain ⟨i1, i2⟩ := ih (u / 10) (by omega)
      have hd := digit_byte (u % 10) (by omega)
      refine ⟨?_, ?_⟩
      · rw [numI_snoc, i1, hd]; omega
      · rw [List.all_append, i2]
        simp only [List.all_cons, List.all_nil, Bool.and_true, Bool.true_and, digB, hd, Bool.and_eq_true, decide_eq_true_eq]; omega
theorem dec_len (k : Nat) : ∀ u : Nat, u < 10 ^ (k + 1) → (k = 0 ∨ 10 ^ k ≤ u) → (Lib.decDigits u).length = k + 1 := by
  induction k with
  | zero =>
    intro u h _
    rw [Lib.decDigits, dif_pos (by simpa using h)]; rfl
  | succ k ih =>
    intro u h1 h2
    have h2' : 10 ^ (k + 1) ≤ u := by
      rcases h2 with h | h
      · omega
      · exact h
    have hp : 10 ^ (k + 1) = 10 * 10 ^ k := by rw [Nat.pow_succ]; omega
    have hq : 10 ^ (k + 1 + 1) = 10 * 10 ^ (k + 1) := by rw [Nat.pow_succ]; omega
    have hk : 1 ≤ 10 ^ k := Nat.pow_pos (by omega)
    rw [Lib.decDigits, dif_neg (by omega), List.length_append, ih (u / 10) (by omega) (by
      right
      omega)]
    rfl
theorem itoa_dec (n : Int) (h : 0 ≤ n) : Lib.itoa n = Lib.decDigits n.toNat := by unfold Lib.itoa; rw [if_neg (by omega)]
theorem itoa_num (n : Int) (h : 0 ≤ n) : numI (Lib.itoa n) = n ∧ (Lib.itoa n).all digB = true := by
  rw [itoa_dec n h]
  have := dec_num n.toNat
  exact ⟨by rw [this.1]; omega, this.2⟩
theorem whole_len (n : Int) (h : 0 ≤ n) (h1 : n < 1000) : 1 ≤ (Lib.itoa n).length ∧ (Lib.itoa n).length ≤ 3 := by
  rw [itoa_dec n h]
  by_cases c1 : n.toNat < 10
  · rw [dec_len 0 _ (by simpa using c1) (Or.inl rfl)]; omega
  · by_cases c2 : n.toNat < 100
    · rw [dec_len 1 _ (by simpa using c2) (Or.inr (by simp; omega))]; omega
    · rw [dec_len 2 _ (by simp; omega) (Or.inr (by simp; omega))]; omega
theorem mil_len (r : Int) (h : 0 ≤ r) (h1 : r < 1000000) : (Lib.itoa (1000000 + r)).length = 7 := by
  rw [itoa_dec _ (by omega)]
  exact dec_len 6 _ (by simp; omega) (Or.inr (by simp; omega))
theorem numI_digits (l : List UInt8) (h : l.all digB = true) : 0 ≤ numI l ∧ numI l < 10 ^ l.length := by
  induction l with
  | nil => simp [numI]
  | cons c l ih =>
    simp only [List.all_cons, Bool.and_eq_true] at h
    obtain ⟨i1, i2⟩ := ih h.2
    have e := numI_append [c] l
    simp only [List.singleton_append] at e
    have hc := h.1
    simp only [digB, Bool.and_eq_true, decide_eq_true_eq] at hc
    have e1 : numI [c] = (c.toNat : Int) - 48 := by simp [numI]
    rw [e, e1, List.length_cons, Int.pow_succ]
    generalize (10 : Int) ^ l.length = p at *
    have hp : 0 < p := by omega
    have b1 : 0 ≤ ((c.toNat : Int) - 48) * p := Int.mul_nonneg (by omega) (by omega)
    have b2 : ((c.toNat : Int) - 48) * p ≤ 9 * p := Int.mul_le_mul_of_nonneg_right (by omega) (by omega)
    omega
/-- The six digits behind the point. -/
theorem frac_num (r : Int) (h : 0 ≤ r) (h1 : r < 1000000) : ∃ F, (Lib.itoa (1000000 + r)).drop 1 = F ∧ F.length = 6 ∧ F.all digB = true ∧ numI F = r := by
  obtain ⟨n1, n2⟩ := itoa_num (1000000 + r) (by omega)
  have hl := mil_len r h h1
  generalize Lib.itoa (1000000 + r) = l at *
  cases l with
  | nil => simp at hl
  | cons c F =>
    simp only [List.length_cons] at hl
    simp only [List.all_cons, Bool.and_eq_true] at n2
    refine ⟨F, rfl, by omega, n2.2, ?_⟩
    obtain ⟨b1, b2⟩ := numI_digits F n2.2
    have e := numI_append [c] F
    simp only [List.singleton_append] at e
    have e1 : numI [c] = (c.toNat : Int) - 48 := by simp [numI]
    have hF : F.length = 6 := by omega
    rw [n1, e1, hF] at e
    rw [hF] at b2
    omega
theorem mem_front (p : UInt8 → Bool) (l : List UInt8) : ∀ c ∈ l.takeWhile p, p c = true := by
  induction l with
  | nil => intro c hc; simp at hc
  | cons a l ih =>
    intro c hc
    rw [List.takeWhile_cons] at hc
    split at hc
    · rename_i ha
      rcases List.mem_cons.1 hc with rfl | h
      · exact ha
      · exact ih c h
    · simp at hc
theorem trim_back (F : List UInt8) : ∃ k, F = Lib.trimRightB F 48 ++ List.replicate k 48 := by
  unfold Lib.trimRightB
  refine ⟨(F.reverse.takeWhile (· == 48)).length, ?_⟩
  have h := List.takeWhile_append_dropWhile (p := fun c : UInt8 => c == 48) (l := F.reverse)
  have h2 : F = (F.reverse.dropWhile (· == 48)).reverse ++ (F.reverse.takeWhile (· == 48)).reverse := by
    rw [← List.reverse_append, h, List.reverse_reverse]
  have h3 : ∀ l : List UInt8, (∀ c ∈ l, c = 48) → l = List.replicate l.length 48 := fun l hl => List.eq_replicate_iff.2 ⟨rfl, hl⟩
  have h4 := h3 (F.reverse.takeWhile (· == 48)).reverse (by
    intro c hc
    have := mem_front _ _ c (List.mem_reverse.1 hc)
    simpa using this)
  rw [List.length_reverse] at h4
  rw [← h4]
  exact h2
theorem dig_ne (c : UInt8) (h : digB c = true) (k : UInt8) (hk : (k.toNat : Int) < 48 ∨ 57 < (k.toNat : Int)) : (k == c) = false := by
  simp only [digB, Bool.and_eq_true, decide_eq_true_eq] at h
  rw [beq_eq_false_iff_ne]
  rintro rfl
  omega
theorem index_dot (d T : List UInt8) (h : d.all digB = true) : Lib.index (d ++ 46 :: T) [46] = d.length := by
  induction d with
  | nil => simp [Lib.index]
  | cons c d ih =>
    simp only [List.all_cons, Bool.and_eq_true] at h
    have i := ih h.2
    have hc := dig_ne c h.1 46 (Or.inl (by decide))
    rw [List.cons_append, Lib.index, i]
    simp only [List.isPrefixOf, hc, Bool.false_and, Bool.false_eq_true, if_false, List.length_cons]
    rw [if_neg (by first | (simp; done) | (simp; omega))]
    omega
theorem index_none (d : List UInt8) (h : d.all digB = true) : Lib.index d [46] = -1 := by
  induction d with
  | nil => rfl
  | cons c d ih =>
    simp only [List.all_cons, Bool.and_eq_true] at h
    have i := ih h.2
    have hc := dig_ne c h.1 46 (Or.inl (by decide))
    rw [Lib.index, i]
    simp only [List.isPrefixOf, hc, Bool.false_and, Bool.false_eq_true, if_false]
    rfl
theorem cut_dot (d T : List UInt8) (h : d.all digB = true) : Lib.cut (d ++ 46 :: T) [46] = (d, T, true) := by
  unfold Lib.cut
  rw [index_dot d T h, if_pos (by omega)]
  simp
theorem cut_none (d : List UInt8) (h : d.all digB = true) : Lib.cut d [46] = (d, [], false) := by
  unfold Lib.cut
  rw [index_none d h]
  simp
theorem digsB_ok (l : List UInt8) (m : Nat) (h : l.all digB = true) (h1 : 1 ≤ l.length) (h2 : l.length ≤ m) : digsB l m = true := by
  unfold digsB; simp [h, h1, h2]
/-- What Write writes of a size, Read reads. -/
theorem size_back (n : Int) (h0 : 0 ≤ n) (h1 : n ≤ 180000000) : sizeE (sizeL n) = some n := by
  obtain ⟨a1, a2⟩ := itoa_num (n / 1000000) (by omega)
  obtain ⟨a3, a4⟩ := whole_len (n / 1000000) (by omega) (by omega)
  unfold sizeL
  split
  · rename_i hr
    unfold sizeE
    rw [cut_none _ a2]
    simp only
    rw [digsB_ok _ 3 a2 a3 a4]
    simp only [Bool.true_and, Bool.not_false, Bool.true_or, if_true, List.append_nil, List.length_nil]
    rw [numI_append, a1]
    have : numI (List.replicate (6 - 0) 48) = 0 := by decide
    rw [this]
    simp only [List.length_replicate]
    congr 1
    omega
  · rename_i hr
    obtain ⟨F, f1, f2, f3, f4⟩ := frac_num (n % 1000000) (by omega) (by omega)
    rw [f1]
    obtain ⟨k, hk⟩ := trim_back F
    generalize Lib.trimRightB F 48 = T at *
    have hTF : T.all digB = true := by
      rw [hk, List.all_append, Bool.and_eq_true] at f3
      exact f3.1
    have hlen : T.length + k = 6 := by
      have := congrArg List.length hk
      simp at this
      omega
    have hT1 : 1 ≤ T.length := by
      rcases Nat.lt_or_ge T.length 1 with h | h
      · exfalso
        have : T = [] := List.length_eq_zero_iff.1 (by omega)
        subst this
        have k6 : k = 6 := by simpa using hlen
        subst k6
        rw [hk] at f4
        have z : numI ([] ++ List.replicate 6 48) = 0 := by decide
        omega
      · exact h
    unfold sizeE
    rw [List.append_assoc, List.singleton_append, cut_dot _ T a2]
    simp only
    rw [digsB_ok _ 3 a2 a3 a4, digsB_ok T 6 hTF hT1 (by omega)]
    simp only [Bool.true_and, Bool.not_true, Bool.false_or, if_true]
    have hz : (6 - T.length) = k := by omega
    rw [hz, List.append_assoc, ← hk, numI_append, a1, f4, f2]
    congr 1
    omega
theorem suffix_one (l : List UInt8) (c x : UInt8) : Lib.hasSuffix (l ++ [c]) [x] = (x == c) := by
  simp [Lib.hasSuffix, List.isSuffixOf, List.isPrefixOf]
theorem sizeL_len (n : Int) (h0 : 0 ≤ n) (h1 : n ≤ 180000000) : (sizeL n).length ≤ 10 := by
  obtain ⟨_, a4⟩ := whole_len (n / 1000000) (by omega) (by omega)
  unfold sizeL
  split
  · omega
  · have h := mil_len (n % 1000000) (by omega) (by omega)
    have t := trimRightB_le ((Lib.itoa (1000000 + n % 1000000)).drop 1) 48
    simp only [List.length_append, List.length_singleton]
    simp only [List.length_drop] at t
    omega
theorem read_text (n : Int) (c : UInt8) (k s m : Int) (h0 : 0 ≤ n) (h1 : n ≤ m) (hm : m ≤ 180000000) (hmark : markE (sizeL n ++ [c]) = some (k, s, m)) : readE (sizeL n ++ [c]) = (s * n, k, 0) := by
  have hl := sizeL_len n h0 (by omega)
  have hs := size_back n h0 (by omega)
  unfold readE
  rw [if_neg (by simp; omega), hmark]
  have ht : (sizeL n ++ [c]).take ((sizeL n ++ [c]).length - 1) = sizeL n := by simp
  simp only
  rw [ht, hs]
  simp only
  rw [if_neg (by omega)]
theorem read_back (a axis : Int) (h : (writeE a axis).2 = 0) : readE (writeE a axis).1 = (a, axis, 0) := by
  unfold writeE at h ⊢
  by_cases c0 : axis = 0
  · subst c0
    rw [if_pos rfl] at h ⊢
    by_cases c1 : a < -90000000 ∨ 90000000 < a
    · rw [if_pos c1] at h; exact absurd h (by decide)
    · rw [if_neg c1] at h ⊢
      by_cases c2 : a < 0
      · simp only [if_pos c2]
        rw [read_text (-a) 83 0 (-1) 90000000 (by omega) (by omega) (by omega) (by simp only [markE, suffix_one]; rfl)]
        simp
      · simp only [if_neg c2]
        rw [read_text a 78 0 1 90000000 (by omega) (by omega) (by omega) (by simp only [markE, suffix_one]; rfl)]
        simp
  · rw [if_neg c0] at h ⊢
    by_cases c3 : axis = 1
    · subst c3
      rw [if_pos rfl] at h ⊢
      by_cases c1 : a < -180000000 ∨ 180000000 < a
      · rw [if_pos c1] at h; exact absurd h (by decide)
      · rw [if_neg c1] at h ⊢
        by_cases c2 : a < 0
        · simp only [if_pos c2]
          rw [read_text (-a) 87 1 (-1) 180000000 (by omega) (by omega) (by omega) (by simp only [markE, suffix_one]; rfl)]
          simp
        · simp only [if_neg c2]
          rw [read_text a 69 1 1 180000000 (by omega) (by omega) (by omega) (by simp only [markE, suffix_one]; rfl)]
          simp
    · rw [if_neg c3] at h; exact absurd h (by decide)
theorem sizeE_pos (l : List UInt8) (n : Int) (h : sizeE l = some n) : 0 ≤ n := by
  unfold sizeE at h
  split at h
  · rename_i hc
    simp only [Option.some.injEq] at h
    subst h
    refine (numI_digits _ ?_).1
    simp only [digsB, Bool.and_eq_true, Bool.or_eq_true] at hc
    rw [List.all_append, List.all_append, hc.1.1.1]
    have hz : (List.replicate (6 - (Lib.cut l [46]).2.1.length) (48 : UInt8)).all digB = true := by
      rw [List.all_eq_true]
      intro c hc
      rw [(List.mem_replicate.1 hc).2]
      decide
    rw [hz]
    rcases hc.2 with h1 | h1
    · have : (Lib.cut l [46]).2.1 = [] := by
        revert h1
        unfold Lib.cut
        split <;> simp
      rw [this]; rfl
    · rw [h1.1.1]; rfl
  · cases h
theorem markE_some (l : List UInt8) (k s m : Int) (h : markE l = some (k, s, m)) : (k = 0 ∧ m = 90000000 ∨ k = 1 ∧ m = 180000000) ∧ (s = 1 ∨ s = -1) := by
  unfold markE at h
  repeat (split at h; (simp only [Option.some.injEq, Prod.mk.injEq] at h; omega))
  cases h
theorem readE_ok (l : List UInt8) (b k : Int) (h : readE l = (b, k, 0)) : (writeE b k).2 = 0 := by
  unfold readE at h
  split at h
  · simp at h
  · split at h
    · simp at h
    · rename_i k' s m hm
      split at h
      · simp at h
      · rename_i n hn
        split at h
        · simp at h
        · simp only [Prod.mk.injEq, and_true] at h
          obtain ⟨rfl, rfl⟩ := h
          have hp := sizeE_pos _ _ hn
          obtain ⟨h1, h2⟩ := markE_some _ _ _ _ hm
          have hb : -m ≤ s * n ∧ s * n ≤ m := by rcases h2 with rfl | rfl <;> omega
          unfold writeE
          rcases h1 with ⟨rfl, rfl⟩ | ⟨rfl, rfl⟩
          · rw [if_pos rfl, if_neg (by omega)]
          · rw [if_neg (by decide), if_pos rfl, if_neg (by omega)]
end Go.Proofs.YtnjedigjabijcaaDoor
