import Derived.Test.YtnjedigjabijcaaDoorBack
namespace Go.Proofs.YtnjedigjabijcaaDoor
open Go Go.RowKit

theorem arccosE_ok (lo hi : Int) (h : inB lo hi (-100000000) 100000000 = true) :
    arccosE lo hi = ((90000000 - ((arcN hi : Int) - 90000000), 90000000 - (-((arcN (-lo) : Int) - 90000000))), 0) := by
  unfold arccosE; rw [arcsinE_ok lo hi h]; rfl
theorem inB_sine (x : Int) : inB (sineE x).1 (sineE x).2 (-100000000) 100000000 = true := by
  have := sineE_top x
  unfold inB; simp; omega
theorem inB_one (v : Int) (h0 : -100000000 ≤ v) (h1 : v ≤ 100000000) : inB v v (-100000000) 100000000 = true := by
  unfold inB; simp; omega
theorem arc_back' (b : Int) (h0 : 0 ≤ b) (h1 : b ≤ 180000000) : b ≤ (arcN (upE b).2 : Int) := by
  obtain ⟨n, rfl⟩ := Int.eq_ofNat_of_zero_le h0
  have := arc_back n (by omega)
  omega

theorem law_back (a v : Int) (w : World) (hm : MarkTab w) (hp : PowTab w) :
    Calls Tryd.prog 10 #[.int .i64 a, .int .i64 v] w fun e w' => e = .returned (.bool true) ∧ Below w.heap.size w w' := by
  by_cases hin : 0 ≤ a ∧ a ≤ 180000000 ∧ -100000000 ≤ v ∧ v ≤ 100000000
  · obtain ⟨i0, i1, i2, i3⟩ := hin
    have hc := cosE_up a i0 i1
    have ho := upE_odd a i0 i1
    have l1 := arcN_le v
    have l2 := arcN_le (-v)
    have m1 := arc_back' a i0 i1
    have m2 := arc_back' (180000000 - a) (by omega) (by omega)
    have n1 : -(sineE (a + 90000000)).1 = (upE a).2 := by rw [hc, ho]; unfold negE; simp
    have n2 : (sineE (a + 90000000)).2 = (upE (180000000 - a)).2 := by rw [hc]
    have n3 : -(sineE (a - 90000000)).1 = (upE (180000000 - a)).2 := by
      rw [ho]; unfold negE upE; simp
    have n4 : (sineE (a - 90000000)).2 = (upE a).2 := rfl
    obtain ⟨_, s1⟩ := arcN_spec v i3
    obtain ⟨_, s2⟩ := arcN_spec (-v) (by omega)
    have wd := arc_width v i2 i3
    have t1 : sineE ((90000000 - ((arcN v : Int) - 90000000)) + 90000000) = upE (arcN v : Int) := by
      rw [cosE_up _ (by omega) (by omega)]; congr 1; omega
    have t2 : sineE ((90000000 - (-((arcN (-v) : Int) - 90000000))) + 90000000) = negE (upE (arcN (-v) : Int)) := by
      rw [cosE_up _ (by omega) (by omega), ← upE_odd _ (by omega) (by omega)]; congr 1; omega
    have top1 := sineE_top ((arcN v : Int) - 90000000)
    refine law_back_in a v _ _ _ _ _ _ _ w hm hp i0 i1 i2 i3 (cosOfE_one a (by omega)) (arccosE_ok _ _ (inB_sine _)) (sinOfE_one _ (by omega)) (arcsinE_ok _ _ (inB_sine _)) (arccosE_ok v v (inB_one v i2 i3)) ?_
      (cosOfE_one _ (by simp only; omega)) (cosOfE_one _ (by simp only; omega)) ?_ ?_ ?_ ?_ (by simp only; omega) (by simp only; omega) (by simp only; omega) (by simp only; omega) (by simp only; omega) ?_ ?_
    · rw [arcsinE_ok v v (inB_one v i2 i3)]
      simp only [Prod.mk.injEq, and_true]
      omega
    · simp only [n2]; omega
    · simp only [n1]; omega
    · simp only [n3]; omega
    · simp only [n4]; omega
    · simp only [t1]
      change _ ∧ (upE (arcN v : Int)).1 ≤ (upE (arcN v : Int)).2 ∧ _ at top1
      omega
    · simp only [t2]
      have top2 := sineE_top ((arcN (-v) : Int) - 90000000)
      change _ ∧ (upE (arcN (-v) : Int)).1 ≤ (upE (arcN (-v) : Int)).2 ∧ _ at top2
      unfold negE
      simp only
      omega
  · exact law_back_out a v w hm hp (by omega)
end Go.Proofs.YtnjedigjabijcaaDoor
