/-
Plain numbers alone: where a search by halves ends, and the way back from a sine to its angle.
-/
import Derived.Test.YtnjedigjabijcaaDoorShape
import Derived.Test.YtnjedigjabijcaaDoorArc2
namespace Go.Proofs.YtnjedigjabijcaaDoor

theorem bis_spec (p : Nat → Bool) (n : Nat) (hm : ∀ a b, a ≤ b → b < n → p a = true → p b = true) : ∀ f lo hi : Nat, lo ≤ hi → hi ≤ n → hi - lo < 2 ^ f →
    lo ≤ bis p f lo hi ∧ bis p f lo hi ≤ hi ∧ (∀ t, lo ≤ t → t < bis p f lo hi → p t = false) ∧ (∀ t, bis p f lo hi ≤ t → t < hi → p t = true)
  | 0, lo, hi, h1, _, h3 => by
    have e : hi = lo := by simp at h3; omega
    subst e
    exact ⟨Nat.le_refl _, Nat.le_refl _, fun t a b => absurd (Nat.lt_of_le_of_lt a b) (Nat.lt_irrefl _), fun t a b => absurd (Nat.lt_of_le_of_lt a b) (Nat.lt_irrefl _)⟩
  | f + 1, lo, hi, h1, h2, h3 => by
    rw [Nat.pow_succ] at h3
    by_cases hlt : lo < hi
    · cases hp : p ((lo + hi) / 2)
      · rw [bis_no p f lo hi hlt hp]
        obtain ⟨a, b, c, d⟩ := bis_spec p n hm f ((lo + hi) / 2 + 1) hi (by omega) h2 (by omega)
        refine ⟨by omega, b, fun t t1 t2 => ?_, d⟩
        rcases Nat.lt_or_ge t ((lo + hi) / 2 + 1) with h | h
        · cases ht : p t
          · rfl
          · rw [hm t ((lo + hi) / 2) (by omega) (by omega) ht] at hp; cases hp
        · exact c t h t2
      · rw [bis_yes p f lo hi hlt hp]
        obtain ⟨a, b, c, d⟩ := bis_spec p n hm f lo ((lo + hi) / 2) (by omega) (by omega) (by omega)
        refine ⟨a, by omega, c, fun t t1 t2 => ?_⟩
        rcases Nat.lt_or_ge t ((lo + hi) / 2) with h | h
        · exact d t t1 h
        · exact hm ((lo + hi) / 2) t h (by omega) hp
    · rw [bis_done p (f + 1) lo hi hlt]
      exact ⟨Nat.le_refl _, h1, fun t a b => absurd (Nat.lt_of_le_of_lt a b) (Nat.lt_irrefl _), fun t a b => by omega⟩

/-- The sine's enclosure, counted from -90 degrees on. -/
def upE (i : Int) : Int × Int := sineE (i - 90000000)
theorem upE_rise (a b : Int) (h0 : 0 ≤ a) (h : a ≤ b) (hb : b ≤ 180000000) : (upE a).1 ≤ (upE b).1 ∧ (upE a).2 ≤ (upE b).2 := sineE_rise _ _ (by omega) (by omega) (by omega)
theorem sineE_odd (x : Int) (h0 : -90000000 ≤ x) (h1 : x ≤ 90000000) : sineE (-x) = negE (sineE x) := by
  rcases Int.lt_or_le x 0 with h | h
  · rw [sineE_first (-x) (by omega) (by omega), sineE_below x h0 (by omega)]
    unfold negE; simp
  · rw [sineE_below (-x) (by omega) (by omega), sineE_first x h h1]
    simp
theorem upE_odd (i : Int) (h0 : 0 ≤ i) (h1 : i ≤ 180000000) : upE (180000000 - i) = negE (upE i) := by
  unfold upE
  rw [← sineE_odd (i - 90000000) (by omega) (by omega)]
  congr 1; omega
theorem cosE_up (a : Int) (h0 : 0 ≤ a) (h1 : a ≤ 180000000) : sineE (a + 90000000) = upE (180000000 - a) := by
  rw [sineE_mirror _ (by omega) (by omega)]
  unfold upE
  congr 1; omega

theorem arcN_spec (v : Int) (hv : v ≤ 100000000) : (∀ t : Nat, t < arcN v → (upE t).1 < v) ∧ v ≤ (upE (arcN v)).1 := by
  have hm : ∀ a b : Nat, a ≤ b → b < 180000000 → highN v a = true → highN v b = true := by
    intro a b hab hb h
    unfold highN highB at *
    simp only [decide_eq_true_eq] at *
    have := (upE_rise a b (by omega) (by omega) (by omega)).1
    unfold upE at this
    omega
  obtain ⟨_, h2, h3, h4⟩ := bis_spec (highN v) 180000000 hm 28 0 180000000 (by omega) (Nat.le_refl _) (by decide)
  change arcN v ≤ 180000000 at h2
  constructor
  · intro t ht
    have := h3 t (Nat.zero_le _) ht
    unfold highN highB at this
    simp only [decide_eq_false_iff_not] at this
    unfold upE
    omega
  · rcases Nat.lt_or_ge (arcN v) 180000000 with h | h
    · have := h4 (arcN v) (Nat.le_refl _) h
      unfold highN highB at this
      simp only [decide_eq_true_eq] at this
      exact this
    · have e : arcN v = 180000000 := by omega
      rw [e]
      have : upE ((180000000 : Nat) : Int) = (100000000, 100000000) := by decide
      rw [this]; exact hv

/-- Where an enclosure is a point, all before it are less. -/
theorem point_strict (b t : Int) (h0 : 0 ≤ t) (h : t < b) (hb : b ≤ 180000000) (he : (upE b).1 = (upE b).2) : (upE t).1 < (upE b).1 := by
  have hq : b = 180000000 ∨ b = 120000000 ∨ b = 90000000 ∨ b = 60000000 := by
    have key : ∀ a : Int, (quarter a).1 = (quarter a).2 → a = 0 ∨ a = 30000000 ∨ a = 90000000 := by
      intro a
      unfold quarter
      split
      · exact fun _ => Or.inl ‹_›
      split
      · exact fun _ => Or.inr (Or.inl ‹_›)
      split
      · exact fun _ => Or.inr (Or.inr ‹_›)
      · simp only; omega
    unfold upE at he
    rcases Int.lt_or_le (b - 90000000) 0 with hn | hn
    · rw [sineE_below _ (by omega) (by omega)] at he
      have := key (-(b - 90000000)) (by unfold negE at he; simp only at he; omega)
      omega
    · rw [sineE_first _ hn (by omega)] at he
      have := key _ he
      omega
  have m := (upE_rise t (b - 1) h0 (by omega) (by omega)).1
  have s : (upE (b - 1)).1 < (upE b).1 := by rcases hq with rfl | rfl | rfl | rfl <;> decide +kernel
  omega
/-- An angle is not behind the first one whose sine is not below its own. -/
theorem arc_back (b : Nat) (hb : b ≤ 180000000) : b ≤ arcN (upE b).2 := by
  have top := sineE_top ((b : Int) - 90000000)
  obtain ⟨_, s2⟩ := arcN_spec (upE b).2 top.2.2.2
  apply Nat.le_of_not_lt
  intro hlt
  have r := (upE_rise (arcN (upE b).2) b (by omega) (by omega) (by omega)).1
  have w1 : (upE b).1 ≤ (upE b).2 := top.2.1
  have := point_strict b (arcN (upE b).2) (by omega) (by omega) (by omega) (by omega)
  omega
theorem arc_width (v : Int) (h0 : -100000000 ≤ v) (h1 : v ≤ 100000000) : arcN v + arcN (-v) ≤ 180000001 := by
  obtain ⟨a1, a2⟩ := arcN_spec v h1
  obtain ⟨b1, b2⟩ := arcN_spec (-v) (by omega)
  have l1 := arcN_le v
  have l2 := arcN_le (-v)
  rcases Nat.eq_zero_or_pos (arcN v) with h | h
  · omega
  · apply Nat.le_of_not_lt
    intro hlt
    have x := a1 (arcN v - 1) (by omega)
    have y := b1 (180000000 - (arcN v - 1)) (by omega)
    have e := upE_odd ((arcN v - 1 : Nat) : Int) (by omega) (by omega)
    have top := sineE_top (((arcN v - 1 : Nat) : Int) - 90000000)
    have e2 : (((180000000 - (arcN v - 1) : Nat) : Nat) : Int) = 180000000 - ((arcN v - 1 : Nat) : Int) := by omega
    rw [e2, e] at y
    unfold negE at y
    simp only at y
    change _ ∧ _ ∧ (upE ((arcN v - 1 : Nat) : Int)).2 ≤ (upE ((arcN v - 1 : Nat) : Int)).1 + 1 ∧ _ at top
    omega
end Go.Proofs.YtnjedigjabijcaaDoor
