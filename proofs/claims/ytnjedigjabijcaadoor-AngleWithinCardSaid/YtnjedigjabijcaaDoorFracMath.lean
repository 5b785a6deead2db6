import Derived.Test.YtnjedigjabijcaaDoorTimes2
namespace Go.Proofs.YtnjedigjabijcaaDoor
open Go Go.RowKit

theorem hull3 (p a b c : Int × Int) : (hullL p [a, b, c]).1 ≤ p.1 ∧ (hullL p [a, b, c]).1 ≤ a.1 ∧ (hullL p [a, b, c]).1 ≤ b.1 ∧ (hullL p [a, b, c]).1 ≤ c.1 ∧
    p.2 ≤ (hullL p [a, b, c]).2 ∧ a.2 ≤ (hullL p [a, b, c]).2 ∧ b.2 ≤ (hullL p [a, b, c]).2 ∧ c.2 ≤ (hullL p [a, b, c]).2 := by
  simp only [hullL, List.foldl, hullS]
  omega
theorem ends_le (u1 u2 a b : Int) (h1 : u1 ≤ a) (h2 : a ≤ u2) : u1 * b ≤ a * b ∨ u2 * b ≤ a * b := by
  rcases Int.lt_or_le b 0 with h | h
  · exact .inr (Int.mul_le_mul_of_nonpos_right h2 (by omega))
  · exact .inl (Int.mul_le_mul_of_nonneg_right h1 h)
theorem ends_ge (u1 u2 a b : Int) (h1 : u1 ≤ a) (h2 : a ≤ u2) : a * b ≤ u1 * b ∨ a * b ≤ u2 * b := by
  rcases Int.lt_or_le b 0 with h | h
  · exact .inl (Int.mul_le_mul_of_nonpos_right h1 (by omega))
  · exact .inr (Int.mul_le_mul_of_nonneg_right h2 h)
theorem corner_le (x y : Int × Int) (a b : Int) (h1 : x.1 ≤ a) (h2 : a ≤ x.2) (h3 : y.1 ≤ b) (h4 : b ≤ y.2) : x.1 * y.1 ≤ a * b ∨ x.1 * y.2 ≤ a * b ∨ x.2 * y.1 ≤ a * b ∨ x.2 * y.2 ≤ a * b := by
  have e1 := ends_le y.1 y.2 b x.1 h3 h4
  have e2 := ends_le y.1 y.2 b x.2 h3 h4
  have e3 := ends_le x.1 x.2 a b h1 h2
  rw [Int.mul_comm y.1, Int.mul_comm y.2, Int.mul_comm b] at e1 e2
  omega
theorem corner_ge (x y : Int × Int) (a b : Int) (h1 : x.1 ≤ a) (h2 : a ≤ x.2) (h3 : y.1 ≤ b) (h4 : b ≤ y.2) : a * b ≤ x.1 * y.1 ∨ a * b ≤ x.1 * y.2 ∨ a * b ≤ x.2 * y.1 ∨ a * b ≤ x.2 * y.2 := by
  have e1 := ends_ge y.1 y.2 b x.1 h3 h4
  have e2 := ends_ge y.1 y.2 b x.2 h3 h4
  have e3 := ends_ge x.1 x.2 a b h1 h2
  rw [Int.mul_comm y.1, Int.mul_comm y.2, Int.mul_comm b] at e1 e2
  omega
theorem timesQ_eq (a b : Int) : timesQ a b = ((a * b) / 100000000, -((-(a * b)) / 100000000)) := quo_pos _ _ (by omega)
theorem cornE_times (x y : Int × Int) (a b : Int) (h1 : x.1 ≤ a) (h2 : a ≤ x.2) (h3 : y.1 ≤ b) (h4 : b ≤ y.2) : (cornE timesQ x y).1 * 100000000 ≤ a * b ∧ a * b ≤ (cornE timesQ x y).2 * 100000000 := by
  have hl := corner_le x y a b h1 h2 h3 h4
  have hg := corner_ge x y a b h1 h2 h3 h4
  have h := hull3 (timesQ x.1 y.1) (timesQ x.1 y.2) (timesQ x.2 y.1) (timesQ x.2 y.2)
  unfold cornE
  generalize hullL (timesQ x.1 y.1) [timesQ x.1 y.2, timesQ x.2 y.1, timesQ x.2 y.2] = q at *
  simp only [timesQ_eq] at h
  generalize x.1 * y.1 = c1 at *
  generalize x.1 * y.2 = c2 at *
  generalize x.2 * y.1 = c3 at *
  generalize x.2 * y.2 = c4 at *
  generalize a * b = m at *
  omega

theorem quo_lo (n d : Int) (h : 0 < d) : (quoE n d).1 * d ≤ n ∧ n ≤ (quoE n d).2 * d := by
  rw [quo_pos n d (by omega)]
  refine ⟨Int.mul_le_of_le_ediv h (Int.le_refl _), ?_⟩
  have := Int.mul_le_of_le_ediv h (Int.le_refl (-n / d))
  simp only [Int.neg_mul]
  omega
theorem quo_hi (n d : Int) (h : d < 0) : (quoE n d).1 * (-d) ≤ -n ∧ -n ≤ (quoE n d).2 * (-d) := by
  rw [quo_neg n d h]
  refine ⟨Int.mul_le_of_le_ediv (by omega) (Int.le_refl _), ?_⟩
  have := Int.mul_le_of_le_ediv (show 0 < -d by omega) (Int.le_refl (-(-n) / (-d)))
  rw [Int.neg_mul]
  omega
theorem lin (k b z1 z2 n : Int) (h1 : z1 ≤ b) (h2 : b ≤ z2) (e1 : k * z1 ≤ n) (e2 : k * z2 ≤ n) : k * b ≤ n := by
  rcases Int.lt_or_le k 0 with h | h
  · exact Int.le_trans (Int.mul_le_mul_of_nonpos_left (by omega) h1) e1
  · exact Int.le_trans (Int.mul_le_mul_of_nonneg_left h2 h) e2
theorem lin' (k b z1 z2 n : Int) (h1 : z1 ≤ b) (h2 : b ≤ z2) (e1 : n ≤ k * z1) (e2 : n ≤ k * z2) : n ≤ k * b := by
  have := lin (-k) b z1 z2 (-n) h1 h2 (by rw [Int.neg_mul]; omega) (by rw [Int.neg_mul]; omega)
  rw [Int.neg_mul] at this
  omega
theorem le_mul {k l d n : Int} (h : k ≤ l) (hd : 0 < d) (e : l * d ≤ n) : k * d ≤ n := Int.le_trans (Int.mul_le_mul_of_nonneg_right h (by omega)) e
theorem ge_mul {k l d n : Int} (h : l ≤ k) (hd : 0 < d) (e : n ≤ l * d) : n ≤ k * d := Int.le_trans e (Int.mul_le_mul_of_nonneg_right h (by omega))
theorem cornE_over_pos (x y : Int × Int) (a b : Int) (h1 : x.1 ≤ a) (h2 : a ≤ x.2) (h3 : y.1 ≤ b) (h4 : b ≤ y.2) (hp : 0 < y.1) : (cornE overQ x y).1 * b ≤ a * 100000000 ∧ a * 100000000 ≤ (cornE overQ x y).2 * b := by
  have h := hull3 (overQ x.1 y.1) (overQ x.1 y.2) (overQ x.2 y.1) (overQ x.2 y.2)
  unfold cornE
  generalize hullL (overQ x.1 y.1) [overQ x.1 y.2, overQ x.2 y.1, overQ x.2 y.2] = q at *
  obtain ⟨g1, g2, g3, g4, g5, g6, g7, g8⟩ := h
  refine ⟨Int.le_trans (lin _ _ _ _ (x.1 * 100000000) h3 h4 (le_mul g1 hp (quo_lo _ _ hp).1) (le_mul g2 (by omega) (quo_lo _ _ (by omega)).1)) (by omega), 
    Int.le_trans (by omega) (lin' _ _ _ _ (x.2 * 100000000) h3 h4 (ge_mul g7 hp (quo_lo _ _ hp).2) (ge_mul g8 (by omega) (quo_lo _ _ (by omega)).2))⟩
theorem cornE_over_neg (x y : Int × Int) (a b : Int) (h1 : x.1 ≤ a) (h2 : a ≤ x.2) (h3 : y.1 ≤ b) (h4 : b ≤ y.2) (hn : y.2 < 0) : (cornE overQ x y).1 * (-b) ≤ -(a * 100000000) ∧ -(a * 100000000) ≤ (cornE overQ x y).2 * (-b) := by
  have h := hull3 (overQ x.1 y.1) (overQ x.1 y.2) (overQ x.2 y.1) (overQ x.2 y.2)
  unfold cornE
  generalize hullL (overQ x.1 y.1) [overQ x.1 y.2, overQ x.2 y.1, overQ x.2 y.2] = q at *
  obtain ⟨g1, g2, g3, g4, g5, g6, g7, g8⟩ := h
  refine ⟨Int.le_trans (lin _ _ (-y.2) (-y.1) (-(x.2 * 100000000)) (by omega) (by omega) (le_mul g4 (by omega) (quo_hi _ _ (by omega)).1) (le_mul g3 (by omega) (quo_hi _ _ (by omega)).1)) (by omega),
    Int.le_trans (by omega) (lin' _ _ (-y.2) (-y.1) (-(x.1 * 100000000)) (by omega) (by omega) (ge_mul g6 (by omega) (quo_hi _ _ (by omega)).2) (ge_mul g5 (by omega) (quo_hi _ _ (by omega)).2))⟩

/-- A quotient in whole numbers, rounded down, and its rest, lie between. -/
theorem whole_in (n b k l W R : Int) (hb : 1 ≤ b) (e1 : k * b ≤ n) (e2 : n ≤ l * b) (h : b * W + R = n) (r0 : 0 ≤ R) (r1 : R < b) : k ≤ W ∧ W ≤ l ∧ (l = W → R ≤ 0) := by
  refine ⟨?_, ?_, ?_⟩
  · have : k * b < (W + 1) * b := by rw [Int.add_mul, Int.mul_comm W]; omega
    have := Int.lt_of_mul_lt_mul_right this (by omega)
    omega
  · have : W * b ≤ l * b := by rw [Int.mul_comm W]; omega
    exact Int.le_of_mul_le_mul_right this (by omega)
  · rintro rfl
    rw [Int.mul_comm l] at e2
    omega
theorem trunc_in (n b k l : Int) (hb : 1 ≤ b) (e1 : k * b ≤ n) (e2 : n ≤ l * b) :
    (n.tmod b < 0 → k ≤ n.tdiv b - 1 ∧ n.tdiv b - 1 ≤ l ∧ (l = n.tdiv b - 1 → n.tmod b + b ≤ 0)) ∧ (¬ n.tmod b < 0 → k ≤ n.tdiv b ∧ n.tdiv b ≤ l ∧ (l = n.tdiv b → n.tmod b ≤ 0)) := by
  have h := Int.mul_tdiv_add_tmod n b
  have h3 := Int.lt_tmod_of_pos n (show 0 < b by omega)
  have h5 := Int.tmod_lt_of_pos n (show 0 < b by omega)
  refine ⟨fun hr => whole_in n b k l _ _ hb e1 e2 (by rw [Int.mul_sub]; omega) (by omega) (by omega), fun hr => whole_in n b k l _ _ hb e1 e2 h (by omega) (by omega)⟩
end Go.Proofs.YtnjedigjabijcaaDoor
