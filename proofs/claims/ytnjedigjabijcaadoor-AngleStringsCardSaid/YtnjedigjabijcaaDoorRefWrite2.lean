import Derived.Test.YtnjedigjabijcaaDoorRefWrite1
namespace Go.Proofs.YtnjedigjabijcaaDoor
open Go Go.RowKit

theorem lowD_last (n j : Nat) : lowD n (j + 1) = lowD (n / 10) j ++ [UInt8.ofNat (48 + n % 10)] := by
  induction j with
  | zero => rw [lowD, lowD, lowD]; simp
  | succ j ih =>
    rw [lowD, ih, lowD, Nat.div_div_eq_div_mul, show 10 * 10 ^ j = 10 ^ (j + 1) by rw [Nat.pow_succ, Nat.mul_comm]]
    rfl
theorem lowD_dec : ∀ (j n : Nat), DecPost n 1 j → lowD n j = Lib.decDigits n
  | 0, n, h => by have := h.1; omega
  | 1, n, h => by
    have h2 := h.2.1
    rw [Nat.pow_one] at h2
    rw [lowD, lowD, Lib.decDigits, dif_pos (by omega)]
    simp
    congr 2
    omega
  | j + 2, n, h => by
    obtain ⟨h1, h2, h3⟩ := h
    have h4 : 0 < n / 10 ^ (j + 1) := by
      rcases h3 with h3 | h3
      · omega
      · exact h3
    have e1 : n / 10 / 10 ^ (j + 1) = n / 10 ^ (j + 2) := by rw [Nat.div_div_eq_div_mul, show 10 * 10 ^ (j + 1) = 10 ^ (j + 2) by rw [Nat.pow_succ 10 (j + 1), Nat.mul_comm]]
    have e2 : n / 10 / 10 ^ j = n / 10 ^ (j + 1) := by rw [Nat.div_div_eq_div_mul, show 10 * 10 ^ j = 10 ^ (j + 1) by rw [Nat.pow_succ, Nat.mul_comm]]
    have hn : ¬ n < 10 := by
      intro hn
      have : n / 10 = 0 := by omega
      rw [← e2, this] at h4
      simp at h4
    rw [lowD_last, lowD_dec (j + 1) (n / 10) ⟨by omega, by rw [e1]; exact h2, Or.inr (by rw [Nat.add_sub_cancel, e2]; exact h4)⟩]
    conv => rhs; rw [Lib.decDigits, dif_neg hn]
theorem lowD_frac (m : Nat) (hm : m < 1000000) : lowD m 6 = (Lib.itoa (1000000 + (m : Int))).drop 1 := by
  have e : Lib.itoa (1000000 + (m : Int)) = Lib.decDigits (1000000 + m) := by
    unfold Lib.itoa
    rw [if_neg (by omega)]
    congr 1
  rw [e, ← lowD_dec 7 (1000000 + m) ⟨by omega, Nat.div_eq_of_lt (by omega), Or.inr (by show 0 < (1000000 + m) / 1000000; omega)⟩]
  show lowD m 6 = lowD (1000000 + m) 6
  simp only [lowD]
  rw [show m / 10 ^ 5 % 10 = (1000000 + m) / 10 ^ 5 % 10 by omega, show m / 10 ^ 4 % 10 = (1000000 + m) / 10 ^ 4 % 10 by omega, show m / 10 ^ 3 % 10 = (1000000 + m) / 10 ^ 3 % 10 by omega,
    show m / 10 ^ 2 % 10 = (1000000 + m) / 10 ^ 2 % 10 by omega, show m / 10 ^ 1 % 10 = (1000000 + m) / 10 ^ 1 % 10 by omega, show m / 10 ^ 0 % 10 = (1000000 + m) / 10 ^ 0 % 10 by omega]
theorem drop_none (p : UInt8 → Bool) : ∀ l : List UInt8, l.dropWhile p = [] → ∀ x ∈ l, p x = true
  | [], _, x, hx => by cases hx
  | a :: l, h, x, hx => by
    by_cases c : p a = true
    · rw [List.dropWhile_cons_of_pos c] at h
      rcases List.mem_cons.1 hx with rfl | hx
      · exact c
      · exact drop_none p l h x hx
    · rw [List.dropWhile_cons_of_neg c] at h
      cases h
theorem trim_none (l : List UInt8) (c : UInt8) (h : Lib.trimRightB l c = []) : ∀ x ∈ l, x = c := by
  unfold Lib.trimRightB at h
  rw [List.reverse_eq_nil_iff] at h
  intro x hx
  have := drop_none _ _ h x (List.mem_reverse.2 hx)
  simpa using this
theorem digit_zero (d : Nat) (hd : d < 10) (h : UInt8.ofNat (48 + d) = 48) : d = 0 := by
  have e := congrArg UInt8.toNat h
  rw [digit_byte d hd] at e
  have : (48 : UInt8).toNat = 48 := rfl
  omega
/-- A fraction's digits are all zeros just if it is 0. -/
theorem frac_some (m : Nat) (hm : m < 1000000) (h : Lib.trimRightB (lowD m 6) 48 = []) : m = 0 := by
  have a := trim_none _ _ h
  simp only [lowD, List.mem_cons, List.not_mem_nil, or_false, forall_eq_or_imp, forall_eq] at a
  obtain ⟨a5, a4, a3, a2, a1, a0⟩ := a
  have b5 := digit_zero _ (by omega) a5
  have b4 := digit_zero _ (by omega) a4
  have b3 := digit_zero _ (by omega) a3
  have b2 := digit_zero _ (by omega) a2
  have b1 := digit_zero _ (by omega) a1
  have b0 := digit_zero _ (by omega) a0
  omega
theorem frac_none : Lib.trimRightB (lowD 0 6) 48 = [] := by decide
/-- What the reference puts together is what the program writes. -/
theorem size_parts (n : Nat) (h : n ≤ 180000000) : sizeL (n : Int) =
    (if Lib.trimRightB (lowD (n % 1000000) 6) 48 = [] then Lib.decDigits (n / 1000000) else Lib.decDigits (n / 1000000) ++ [46] ++ Lib.trimRightB (lowD (n % 1000000) 6) 48) := by
  have e1 : Lib.itoa ((n : Int) / 1000000) = Lib.decDigits (n / 1000000) := by
    unfold Lib.itoa
    rw [if_neg (by omega)]
    congr 1
  have e2 : (n : Int) % 1000000 = ((n % 1000000 : Nat) : Int) := by omega
  unfold sizeL
  rw [e1, e2, ← lowD_frac (n % 1000000) (by omega)]
  by_cases c : n % 1000000 = 0
  · rw [c, if_pos (by rfl), if_pos frac_none]
  · rw [if_neg (by omega), if_neg (fun g => c (frac_some _ (by omega) g))]
end Go.Proofs.YtnjedigjabijcaaDoor
