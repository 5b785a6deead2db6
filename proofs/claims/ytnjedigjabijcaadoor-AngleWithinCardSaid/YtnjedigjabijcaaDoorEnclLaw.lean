import Derived.Test.YtnjedigjabijcaaDoorEncl2
namespace Go.Proofs.YtnjedigjabijcaaDoor
open Go Go.RowKit

theorem part_bd (d t : Int) (h0 : 0 ≤ d) (t0 : 0 ≤ t) (t1 : t ≤ 255) : 0 ≤ d * t ∧ d * t ≤ d * 255 ∧ 0 ≤ d * t / 255 ∧ d * t / 255 ≤ d := by
  have a : 0 ≤ d * t := Int.mul_nonneg h0 t0
  have b : d * t ≤ d * 255 := Int.mul_le_mul_of_nonneg_left t1 h0
  omega
theorem flagL (a b c : Int) (h : a = b ∨ a = c) : (a == b) = true ∨ ((a == b) = false ∧ (a == c) = true) := by
  by_cases e : a = b
  · exact Or.inl (by simpa using e)
  · exact Or.inr ⟨by simpa using e, by rcases h with h | h <;> simp_all⟩

theorem law_encl (lo hi t : Int) (t0 : 0 ≤ t) (t1 : t ≤ 255) (w : World) (hm : MarkTab w) (hp : PowTab w) :
    Calls Tryd.prog 8 #[.agg #[.int .i64 lo, .int .i64 hi], .int .u8 t] w fun e w' => e = .returned (.bool true) ∧ Below w.heap.size w w' := by
  cases hc : inB lo hi (-3600000000) 3600000000
  · exact law_encl_no lo hi t hc w hm hp
  · obtain ⟨b1, b2, b3⟩ := inB_yes hc
    obtain ⟨p0, p1, p2, p3⟩ := part_bd (hi - lo) t (by omega) t0 t1
    have hin := sinesE_within lo hi (lo + (hi - lo) * t / 255) (by omega) (by omega)
    have hic := sinesE_within (lo + 90000000) (hi + 90000000) (lo + (hi - lo) * t / 255 + 90000000) (by omega) (by omega)
    obtain ⟨r1, r2⟩ := sinesE_reached lo hi b2
    refine law_encl_yes lo hi t (sinesE lo hi) (sinesE (lo + 90000000) (hi + 90000000)) (sineE (lo + (hi - lo) * t / 255)) (sineE (lo + (hi - lo) * t / 255 + 90000000)) (sineE lo) (sineE hi) w hm hp
      b1 b2 b3 t0 t1 p0 (by omega) p3 (sinOfE_yes hc) (cosOfE_yes hc) (sinOfE_one _ (by omega)) (cosOfE_one _ (by omega)) (sinOfE_one _ (by omega)) (sinOfE_one _ (by omega))
      (inE_yes hin.1 hin.2) (inE_yes hic.1 hic.2) (flagL _ _ _ r1) (flagL _ _ _ r2) ?_
    rcases Int.lt_or_le (hi - lo) 360000000 with h | h
    · exact Or.inl h
    · exact Or.inr ⟨h, sinesE_turn lo hi h⟩
end Go.Proofs.YtnjedigjabijcaaDoor
