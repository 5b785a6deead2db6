/-
Plain numbers alone: the shape of the sine's enclosures, and what encloses those of some angles.
-/
import Derived.Test.YtnjedigjabijcaaDoorMono
import Derived.Test.YtnjedigjabijcaaDoorSine6
namespace Go.Proofs.YtnjedigjabijcaaDoor

theorem sineE_turn (a k : Int) : sineE (a + 360000000 * k) = sineE a := by
  unfold sineE
  rw [Int.add_mul_emod_self_left]
theorem sineE_first (a : Int) (h0 : 0 ≤ a) (h : a ≤ 90000000) : sineE a = quarter a := by
  unfold sineE
  rw [Int.emod_eq_of_lt h0 (by omega), if_neg (by omega)]
  unfold halfT
  rw [if_neg (by omega)]
theorem sineE_second (a : Int) (h0 : 90000000 ≤ a) (h : a ≤ 180000000) : sineE a = quarter (180000000 - a) := by
  unfold sineE
  rw [Int.emod_eq_of_lt (by omega) (by omega)]
  by_cases h1 : a = 180000000
  · subst h1; decide
  · rw [if_neg (by omega)]
    unfold halfT
    by_cases h2 : a = 90000000
    · subst h2; decide
    · rw [if_pos (by omega)]
theorem sineE_third (a : Int) (h0 : 180000000 ≤ a) (h : a ≤ 270000000) : sineE a = negE (quarter (a - 180000000)) := by
  unfold sineE
  rw [Int.emod_eq_of_lt (by omega) (by omega), if_pos h0]
  unfold halfT
  rw [if_neg (by omega)]
theorem sineE_below (a : Int) (h0 : -90000000 ≤ a) (h : a ≤ 0) : sineE a = negE (quarter (-a)) := by
  by_cases h1 : a = 0
  · subst h1; decide
  · have e : sineE a = sineE (a + 360000000 * 1) := (sineE_turn a 1).symm
    rw [e]
    unfold sineE
    rw [Int.emod_eq_of_lt (by omega) (by omega), if_pos (by omega)]
    unfold halfT
    by_cases h2 : a = -90000000
    · subst h2; decide
    · rw [if_pos (by omega)]
      congr 2
      omega
/-- The sine of the angle that is left of 180 degrees is the same. -/
theorem sineE_mirror (a : Int) (h0 : 90000000 ≤ a) (h : a ≤ 270000000) : sineE a = sineE (180000000 - a) := by
  rcases Int.lt_or_le a 180000000 with h1 | h1
  · rw [sineE_second a h0 (by omega), sineE_first _ (by omega) (by omega)]
  · rw [sineE_third a h1 h, sineE_below _ (by omega) (by omega)]
    congr 2
    omega
/-- From -90 to 90 degrees both ends rise. -/
theorem sineE_rise (a b : Int) (h0 : -90000000 ≤ a) (h : a ≤ b) (hb : b ≤ 90000000) : (sineE a).1 ≤ (sineE b).1 ∧ (sineE a).2 ≤ (sineE b).2 := by
  rcases Int.lt_or_le a 0 with ha | ha
  · rw [sineE_below a h0 (by omega)]
    have t1 := quarter_top (-a) (by omega) (by omega)
    rcases Int.lt_or_le b 0 with hb2 | hb2
    · rw [sineE_below b (by omega) (by omega)]
      have m := quarter_mono (-b) (-a) (by omega) (by omega) (by omega)
      unfold negE
      simp only
      omega
    · rw [sineE_first b hb2 hb]
      have t2 := quarter_top b hb2 hb
      unfold negE
      simp only
      omega
  · rw [sineE_first a ha (by omega), sineE_first b (by omega) hb]
    exact quarter_mono a b ha h hb
theorem sineE_fall (a b : Int) (h0 : 90000000 ≤ a) (h : a ≤ b) (hb : b ≤ 270000000) : (sineE b).1 ≤ (sineE a).1 ∧ (sineE b).2 ≤ (sineE a).2 := by
  rw [sineE_mirror a h0 (by omega), sineE_mirror b (by omega) hb]
  exact sineE_rise _ _ (by omega) (by omega) (by omega)
/-- Some turns back every angle lies from -90 to 270 degrees. -/
theorem turns (a c : Int) : ∃ x k, a = x + 360000000 * k ∧ c ≤ x ∧ x < c + 360000000 := by
  refine ⟨c + (a - c) % 360000000, (a - c) / 360000000, ?_, ?_, ?_⟩
  · have := Int.emod_add_mul_ediv (a - c) 360000000; omega
  · have := Int.emod_nonneg (a - c) (show (360000000 : Int) ≠ 0 by decide); omega
  · have := Int.emod_lt_of_pos (a - c) (show (0 : Int) < 360000000 by decide); omega
/-- Each enclosure lies from -1 to 1, and is at most one unit wide. -/
theorem sineE_top (a : Int) : -100000000 ≤ (sineE a).1 ∧ (sineE a).1 ≤ (sineE a).2 ∧ (sineE a).2 ≤ (sineE a).1 + 1 ∧ (sineE a).2 ≤ 100000000 := by
  obtain ⟨x, k, rfl, h1, h2⟩ := turns a (-90000000)
  rw [sineE_turn]
  have core : ∀ x : Int, -90000000 ≤ x → x ≤ 90000000 → -100000000 ≤ (sineE x).1 ∧ (sineE x).1 ≤ (sineE x).2 ∧ (sineE x).2 ≤ (sineE x).1 + 1 ∧ (sineE x).2 ≤ 100000000 := by
    intro x h1 h2
    rcases Int.lt_or_le x 0 with h | h
    · rw [sineE_below x h1 (by omega)]
      have := quarter_top (-x) (by omega) (by omega)
      unfold negE
      simp only
      omega
    · rw [sineE_first x h h2]
      have := quarter_top x h h2
      omega
  rcases Int.lt_or_le x 90000000 with h | h
  · exact core x h1 (by omega)
  · rw [sineE_mirror x h (by omega)]
    exact core _ (by omega) (by omega)

/-- Between two angles with no 90 degrees between them no sine is above both. -/
theorem between_high (lo a hi : Int) (h1 : lo ≤ a) (h2 : a ≤ hi) (m c : Int) (hm : m = 90000000 + 360000000 * c) (h3 : m - 360000000 ≤ lo) (h4 : hi ≤ m) :
    (sineE a).2 ≤ max (sineE lo).2 (sineE hi).2 := by
  have e : ∀ x, sineE x = sineE (x - 360000000 * c) := fun x => by
    have := sineE_turn (x - 360000000 * c) c
    rw [← this]; congr 1; omega
  rw [e a, e lo, e hi]
  rcases Int.lt_or_le (a - 360000000 * c) (-90000000) with h | h
  · have f : ∀ x, sineE x = sineE (x + 360000000) := fun x => by have := sineE_turn x 1; rw [← this]; congr 1
    rw [f (a - 360000000 * c), f (lo - 360000000 * c)]
    have := (sineE_fall (lo - 360000000 * c + 360000000) (a - 360000000 * c + 360000000) (by omega) (by omega) (by omega)).2
    omega
  · have := (sineE_rise (a - 360000000 * c) (hi - 360000000 * c) h (by omega) (by omega)).2
    omega
theorem between_low (lo a hi : Int) (h1 : lo ≤ a) (h2 : a ≤ hi) (m c : Int) (hm : m = -90000000 + 360000000 * c) (h3 : m - 360000000 ≤ lo) (h4 : hi ≤ m) :
    min (sineE lo).1 (sineE hi).1 ≤ (sineE a).1 := by
  have e : ∀ x, sineE x = sineE (x + 360000000 - 360000000 * c) := fun x => by
    have := sineE_turn (x + 360000000 - 360000000 * c) (c - 1)
    rw [← this]; congr 1; omega
  rw [e a, e lo, e hi]
  rcases Int.lt_or_le (a + 360000000 - 360000000 * c) 90000000 with h | h
  · have := (sineE_rise (lo + 360000000 - 360000000 * c) (a + 360000000 - 360000000 * c) (by omega) (by omega) (by omega)).1
    omega
  · have := (sineE_fall (a + 360000000 - 360000000 * c) (hi + 360000000 - 360000000 * c) h (by omega) (by omega)).1
    omega

/-- What 'passes' tells. -/
theorem passB_spec (lo hi b : Int) : ∃ m c, m = b + 360000000 * c ∧ lo ≤ m ∧ m < lo + 360000000 ∧ passB lo hi b = decide (m ≤ hi) := by
  refine ⟨b + 360000000 * (-((-(lo - b)) / 360000000)), -((-(lo - b)) / 360000000), rfl, ?_, ?_, rfl⟩
  · have := Int.mul_ediv_add_emod (-(lo - b)) 360000000
    have := Int.emod_nonneg (-(lo - b)) (show (360000000 : Int) ≠ 0 by decide)
    omega
  · have := Int.mul_ediv_add_emod (-(lo - b)) 360000000
    have := Int.emod_lt_of_pos (-(lo - b)) (show (0 : Int) < 360000000 by decide)
    omega

theorem sineE_peak (c : Int) : sineE (90000000 + 360000000 * c) = (100000000, 100000000) := by rw [sineE_turn]; decide
theorem sineE_valley (c : Int) : sineE (-90000000 + 360000000 * c) = (-100000000, -100000000) := by rw [sineE_turn]; decide

/-- The sines of one angle are its sine. -/
theorem sinesE_one (a : Int) : sinesE a a = sineE a := by
  rw [sinesE_eq, endsE_no a a (by omega)]
  obtain ⟨m, c, hm, m1, m2, e1⟩ := passB_spec a a (-90000000)
  obtain ⟨n, d, hn, n1, n2, e2⟩ := passB_spec a a 90000000
  have hlow : (if passB a a (-90000000) = true then -100000000 else (sineE a).1) = (sineE a).1 := by
    rw [e1]
    by_cases h : m ≤ a
    · have : a = -90000000 + 360000000 * c := by omega
      rw [if_pos (by simpa using h), this, sineE_valley]
    · rw [if_neg (by simpa using h)]
  have hhigh : (if passB a a 90000000 = true then 100000000 else (sineE a).2) = (sineE a).2 := by
    rw [e2]
    by_cases h : n ≤ a
    · have : a = 90000000 + 360000000 * d := by omega
      rw [if_pos (by simpa using h), this, sineE_peak]
    · rw [if_neg (by simpa using h)]
  rw [hlow, hhigh]

/-- The sines of all angles in between lie within; the ends are reached; a whole turn has all. -/
theorem sinesE_within (lo hi a : Int) (h1 : lo ≤ a) (h2 : a ≤ hi) : (sinesE lo hi).1 ≤ (sineE a).1 ∧ (sineE a).2 ≤ (sinesE lo hi).2 := by
  rw [sinesE_eq]
  obtain ⟨m, c, hm, m1, m2, e1⟩ := passB_spec lo hi (-90000000)
  obtain ⟨n, d, hn, n1, n2, e2⟩ := passB_spec lo hi 90000000
  have top := sineE_top a
  rw [e1, e2]
  have ends : (endsE lo hi).1 = min (sineE lo).1 (sineE hi).1 ∧ (endsE lo hi).2 = max (sineE lo).2 (sineE hi).2 := by
    rcases Int.lt_or_eq_of_le (Int.le_trans h1 h2) with h | h
    · rw [endsE_yes lo hi h]; exact ⟨rfl, rfl⟩
    · subst h; rw [endsE_no lo lo (by omega)]; omega
  constructor
  · show (if decide (m ≤ hi) = true then -100000000 else (endsE lo hi).1) ≤ _
    split
    · omega
    · rename_i h
      have h' : ¬ m ≤ hi := by simpa using h
      rw [ends.1]
      exact between_low lo a hi h1 h2 m c hm (by omega) (by omega)
  · show _ ≤ (if decide (n ≤ hi) = true then 100000000 else (endsE lo hi).2)
    split
    · omega
    · rename_i h
      have h' : ¬ n ≤ hi := by simpa using h
      rw [ends.2]
      exact between_high lo a hi h1 h2 n d hn (by omega) (by omega)
theorem sinesE_reached (lo hi : Int) (h : lo ≤ hi) :
    ((sinesE lo hi).1 = min (sineE lo).1 (sineE hi).1 ∨ (sinesE lo hi).1 = -100000000) ∧ ((sinesE lo hi).2 = max (sineE lo).2 (sineE hi).2 ∨ (sinesE lo hi).2 = 100000000) := by
  rw [sinesE_eq]
  have ends : (endsE lo hi).1 = min (sineE lo).1 (sineE hi).1 ∧ (endsE lo hi).2 = max (sineE lo).2 (sineE hi).2 := by
    rcases Int.lt_or_eq_of_le h with h | h
    · rw [endsE_yes lo hi h]; exact ⟨rfl, rfl⟩
    · subst h; rw [endsE_no lo lo (by omega)]; omega
  constructor
  · show (if passB lo hi (-90000000) = true then -100000000 else (endsE lo hi).1) = _ ∨ _
    split
    · exact Or.inr rfl
    · exact Or.inl ends.1
  · show (if passB lo hi 90000000 = true then 100000000 else (endsE lo hi).2) = _ ∨ _
    split
    · exact Or.inr rfl
    · exact Or.inl ends.2
theorem sinesE_turn (lo hi : Int) (h : 360000000 ≤ hi - lo) : sinesE lo hi = (-100000000, 100000000) := by
  rw [sinesE_eq]
  obtain ⟨m, c, hm, m1, m2, e1⟩ := passB_spec lo hi (-90000000)
  obtain ⟨n, d, hn, n1, n2, e2⟩ := passB_spec lo hi 90000000
  rw [e1, e2, if_pos (by simpa using (by omega : m ≤ hi)), if_pos (by simpa using (by omega : n ≤ hi))]
end Go.Proofs.YtnjedigjabijcaaDoor
