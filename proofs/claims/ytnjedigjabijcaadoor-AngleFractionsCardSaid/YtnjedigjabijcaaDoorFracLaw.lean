import Derived.Test.YtnjedigjabijcaaDoorFrac2
import Derived.Test.YtnjedigjabijcaaDoorArithMath
namespace Go.Proofs.YtnjedigjabijcaaDoor
open Go Go.RowKit

theorem law_frac (y z : Int × Int) (s t : Int) (s0 : 0 ≤ s) (s1 : s ≤ 255) (t0 : 0 ≤ t) (t1 : t ≤ 255) (w : World) (hm : MarkTab w) (hp : PowTab w) :
    Calls Tryd.prog 9 #[.agg #[.int .i64 y.1, .int .i64 y.2], .agg #[.int .i64 z.1, .int .i64 z.2], .agg #[.int .u8 s, .int .u8 t]] w fun e w' => e = .returned (.bool true) ∧ Below w.heap.size w w' := by
  cases hyz : inB y.1 y.2 (-3000000000) 3000000000 && inB z.1 z.2 (-3000000000) 3000000000
  · refine law_frac_no y z s t (timesE_no hyz) (overE_no hyz) ?_ w hm hp
    rw [inB_eq, inB_eq, ← Bool.decide_and] at hyz
    have := of_decide_eq_false hyz
    omega
  · rw [Bool.and_eq_true] at hyz
    obtain ⟨hy, hz⟩ := hyz
    obtain ⟨i1, i2, i3⟩ := inB_yes hy
    obtain ⟨j1, j2, j3⟩ := inB_yes hz
    obtain ⟨u0, u1, u2, u3⟩ := part_bd (y.2 - y.1) s (by omega) s0 s1
    obtain ⟨v0, v1, v2, v3⟩ := part_bd (z.2 - z.1) t (by omega) t0 t1
    have a1 : y.1 ≤ y.1 + (y.2 - y.1) * s / 255 := by omega
    have a2 : y.1 + (y.2 - y.1) * s / 255 ≤ y.2 := by omega
    have b1 : z.1 ≤ z.1 + (z.2 - z.1) * t / 255 := by omega
    have b2 : z.1 + (z.2 - z.1) * t / 255 ≤ z.2 := by omega
    have u4 : (y.2 - y.1) * s ≤ 2000000000000 := by omega
    have v4 : (z.2 - z.1) * t ≤ 2000000000000 := by omega
    have hpb := prod_bound (a := y.1 + (y.2 - y.1) * s / 255) (b := z.1 + (z.2 - z.1) * t / 255) (by omega) (by omega) (by omega) (by omega)
    refine law_frac_yes y z (timesE y z).1 (overE y z).1 (timesE y z).2 (overE y z).2 s t rfl rfl i1 i2 i3 j1 j2 j3 s0 s1 t0 t1 u0 u4 u3 v0 v4 v3 _ _ rfl rfl hpb.1 hpb.2 ?_ ?_ w hm hp
    · rw [timesE_ok hy hz]
      have hc := cornE_times y z _ _ a1 a2 b1 b2
      cases hq : inB (cornE timesQ y z).1 (cornE timesQ y z).2 (-3000000000) 3000000000
      · rw [checked_no hq]; exact Or.inr rfl
      · obtain ⟨k1, k2, k3⟩ := inB_yes hq
        rw [checked_yes hq]; exact Or.inl ⟨rfl, hc.1, hc.2, k1, k2, k3⟩
    · by_cases c : z.1 ≤ 0 ∧ 0 ≤ z.2
      · rw [overE_z hy hz c]; exact Or.inr (Or.inr ⟨rfl, c⟩)
      · rw [overE_ok hy hz c]
        cases hq : inB (cornE overQ y z).1 (cornE overQ y z).2 (-3000000000) 3000000000
        · rw [checked_no hq]; exact Or.inr (Or.inl ⟨rfl, c⟩)
        · have hk := inB_yes hq
          rw [checked_yes hq]
          refine Or.inl ⟨rfl, hk, ?_⟩
          rcases Int.lt_or_le 0 z.1 with h | h
          · have hc := cornE_over_pos y z _ _ a1 a2 b1 b2 h
            exact Or.inl ⟨h, by omega, hc.1, hc.2⟩
          · have hn : z.2 < 0 := by omega
            have hc := cornE_over_neg y z _ _ a1 a2 b1 b2 hn
            exact Or.inr ⟨hn, by omega, hc.1, hc.2⟩
end Go.Proofs.YtnjedigjabijcaaDoor
