import Derived.Test.YtnjedigjabijcaaDoorRoots
namespace Go.Proofs.YtnjedigjabijcaaDoor
open Go Go.RowKit

set_option maxRecDepth 100000 in
set_option maxHeartbeats 4000000 in
theorem law_roots_yes (p q M N : Int) (w : World) (hm : MarkTab w) (hp : PowTab w) (E : rootE M N = ((p, q), 0)) (i1 : 0 ≤ M) (i2 : M ≤ N) (i3 : N ≤ 3000000000)
    (g1 : p ≤ q) (g2 : q ≤ 600000001) (g3 : 0 ≤ p) (f3 : p * p ≤ M * 100000000) (f4 : M * 100000000 < (p + 1) * (p + 1)) (f5 : N * 100000000 ≤ q * q)
    (g8 : (p + 1) * (p + 1) ≤ 400000000000000000) (g9 : q * q ≤ 400000000000000000) (g10 : 0 ≤ p * p) (g7 : 0 ≤ (q - 1) * (q - 1)) (hq : (q == 0) = false) (g6 : (q - 1) * (q - 1) < N * 100000000) :
    Calls Tryd.prog 11 #[.agg #[.int .i64 M, .int .i64 N]] w fun e w' => e = .returned (.bool true) ∧ Below w.heap.size w w' := by
  have HM := Lib.hid hm
  have HP := Lib.hid hp
  have ER := Lib.hid E
  clear hm hp E
  have SA0 := Slot2.new w (.int .i64 M) (.int .i64 N) 23
  have hW : Below w.heap.size w (w.alloc (.cells #[.int .i64 M, .int .i64 N] 23)) := alloc_below w _
  go_enter Tryd.func11, Tryd.ntmps11
  go_wp2_with fail
  refine (Root_any M N _).mono ?_
  rw [ER.out]
  unfold pairV
  rintro e w1 ⟨rfl, hB1⟩
  simp only
  have hB := hW.trans (hB1.mono hW.size)
  have SA := SA0.below hB1 SA0.lies
  have SA' := SA.alloc (.cells #[.int .i64 p, .int .i64 q] 23)
  have SR := Slot2.new w1 (.int .i64 p) (.int .i64 q) 23
  have HK := Lib.hid (hB.trans ((alloc_below w1 (.cells #[.int .i64 p, .int .i64 q] 23)).mono hB.size))
  clear SA0 hW hB1 hB
  obtain ⟨liesA, a0, a1, _, _⟩ := SA
  obtain ⟨_, b0, b1, _, _⟩ := SA'
  obtain ⟨liesR, r0, r1, _, _⟩ := SR
  go_wp2_with fail
  go_quiet (fail)
  go_wp2_with fail
  refine (awake_any _ (HM.out.below (below_drewN HK.out _)) (HP.out.below (below_drewN HK.out _))).mono ?_
  rintro e w2 ⟨rfl, hB2⟩
  have HB := Lib.hid ((below_drewN HK.out _).trans (hB2.mono (below_drewN HK.out _).size))
  clear hB2
  go_wp2_with fail
  go_ret
  exact ⟨rfl, HB.out⟩

set_option maxRecDepth 100000 in
set_option maxHeartbeats 4000000 in
theorem law_roots_zero (p M N : Int) (w : World) (hm : MarkTab w) (hp : PowTab w) (E : rootE M N = ((p, 0), 0)) (i1 : 0 ≤ M) (i2 : M ≤ N)
    (g1 : p ≤ 0) (g3 : 0 ≤ p) (f3 : p * p ≤ M * 100000000) (f4 : M * 100000000 < (p + 1) * (p + 1)) (f5 : N * 100000000 ≤ 0)
    (g8 : (p + 1) * (p + 1) ≤ 400000000000000000) (g10 : 0 ≤ p * p) :
    Calls Tryd.prog 11 #[.agg #[.int .i64 M, .int .i64 N]] w fun e w' => e = .returned (.bool true) ∧ Below w.heap.size w w' := by
  have HM := Lib.hid hm
  have HP := Lib.hid hp
  have ER := Lib.hid E
  clear hm hp E
  have SA0 := Slot2.new w (.int .i64 M) (.int .i64 N) 23
  have hW : Below w.heap.size w (w.alloc (.cells #[.int .i64 M, .int .i64 N] 23)) := alloc_below w _
  go_enter Tryd.func11, Tryd.ntmps11
  go_wp2_with fail
  refine (Root_any M N _).mono ?_
  rw [ER.out]
  unfold pairV
  rintro e w1 ⟨rfl, hB1⟩
  simp only
  have hB := hW.trans (hB1.mono hW.size)
  have SA := SA0.below hB1 SA0.lies
  have SA' := SA.alloc (.cells #[.int .i64 p, .int .i64 0] 23)
  have SR := Slot2.new w1 (.int .i64 p) (.int .i64 0) 23
  have HK := Lib.hid (hB.trans ((alloc_below w1 (.cells #[.int .i64 p, .int .i64 0] 23)).mono hB.size))
  clear SA0 hW hB1 hB
  obtain ⟨liesA, a0, a1, _, _⟩ := SA
  obtain ⟨_, b0, b1, _, _⟩ := SA'
  obtain ⟨liesR, r0, r1, _, _⟩ := SR
  go_wp2_with fail
  go_quiet (fail)
  go_wp2_with fail
  refine (awake_any _ (HM.out.below (below_drewN HK.out _)) (HP.out.below (below_drewN HK.out _))).mono ?_
  rintro e w2 ⟨rfl, hB2⟩
  have HB := Lib.hid ((below_drewN HK.out _).trans (hB2.mono (below_drewN HK.out _).size))
  clear hB2
  go_wp2_with fail
  go_ret
  exact ⟨rfl, HB.out⟩

set_option maxRecDepth 100000 in
set_option maxHeartbeats 4000000 in
theorem law_roots (lo hi : Int) (w : World) (hm : MarkTab w) (hp : PowTab w) :
    Calls Tryd.prog 11 #[.agg #[.int .i64 lo, .int .i64 hi]] w fun e w' => e = .returned (.bool true) ∧ Below w.heap.size w w' := by
  have HM := Lib.hid hm
  have HP := Lib.hid hp
  clear hm hp
  have SA0 := Slot2.new w (.int .i64 lo) (.int .i64 hi) 23
  have hW : Below w.heap.size w (w.alloc (.cells #[.int .i64 lo, .int .i64 hi] 23)) := alloc_below w _
  cases hc : inB lo hi 0 3000000000
  · have E := Lib.hid (rootE_no lo hi hc)
    clear hc
    go_enter Tryd.func11, Tryd.ntmps11
    go_wp2_with fail
    refine (Root_any lo hi _).mono ?_
    rw [E.out]
    unfold pairV
    rintro e w1 ⟨rfl, hB1⟩
    have hB := hW.trans (hB1.mono hW.size)
    have k1 := hB.trans ((alloc_below w1 (.cells #[.int .i64 0, .int .i64 0] 23)).mono hB.size)
    clear SA0 hW hB1 hB
    go_wp2_with fail
    refine (awake_any _ (HM.out.below k1) (HP.out.below k1)).mono ?_
    rintro e w2 ⟨rfl, hB2⟩
    have HB := Lib.hid (k1.trans (hB2.mono k1.size))
    clear k1 hB2
    go_wp2
    go_ret
    exact ⟨rfl, HB.out⟩
  · obtain ⟨i1, i2, i3⟩ := inB_yes hc
    have E := Lib.hid (rootE_ok lo hi hc)
    clear hc
    obtain ⟨m, rfl⟩ := Int.eq_ofNat_of_zero_le i1
    obtain ⟨n, rfl⟩ := Int.eq_ofNat_of_zero_le (show 0 ≤ hi by omega)
    obtain ⟨f1, f2, f3, f4, f5, f6⟩ := rt_facts m n (by omega) (by omega)
    have ER : Hid (rootE (m : Int) (n : Int) = (((rtN m : Int), (upN n : Int)), 0)) := E.out
    clear E
    have g1 : (rtN m : Int) ≤ (upN n : Int) := by omega
    have g2 : (upN n : Int) ≤ 600000001 := by omega
    have g3 : 0 ≤ (rtN m : Int) := by omega
    have g6 : (upN n : Int) = 0 ∨ ((upN n : Int) - 1) * ((upN n : Int) - 1) < (n : Int) * 100000000 := by
      rcases f6 with h | h
      · exact Or.inl (by omega)
      · exact Or.inr h
    have g7 : 0 ≤ ((upN n : Int) - 1) * ((upN n : Int) - 1) := by
      rcases Int.lt_or_le (upN n : Int) 1 with h | h
      · have : (upN n : Int) = 0 := by omega
        rw [this]; decide
      · exact Int.mul_nonneg (by omega) (by omega)
    have g8 : ((rtN m : Int) + 1) * ((rtN m : Int) + 1) ≤ 400000000000000000 := by
      have : (rtN m + 1) * (rtN m + 1) ≤ 600000002 * 600000002 := Nat.mul_le_mul (by omega) (by omega)
      have := Int.ofNat_le.2 this; simp at this; omega
    have g9 : (upN n : Int) * (upN n : Int) ≤ 400000000000000000 := by
      have : upN n * upN n ≤ 600000002 * 600000002 := Nat.mul_le_mul (by omega) (by omega)
      have := Int.ofNat_le.2 this; simp at this; omega
    have g10 : 0 ≤ (rtN m : Int) * (rtN m : Int) := Int.mul_nonneg (by omega) (by omega)
    clear f1 f2 f6
    rcases g6 with g6 | g6
    · rw [g6] at ER g1 f5
      exact law_roots_zero _ _ _ w HM.out HP.out ER.out i1 i2 g1 g3 f3 f4 (by simpa using f5) g8 g10
    · by_cases hq : (upN n : Int) = 0
      · rw [hq] at ER g1 f5
        exact law_roots_zero _ _ _ w HM.out HP.out ER.out i1 i2 g1 g3 f3 f4 (by simpa using f5) g8 g10
      · exact law_roots_yes _ _ _ _ w HM.out HP.out ER.out i1 i2 i3 g1 g2 g3 f3 f4 f5 g8 g9 g10 g7 (beq_eq_false_iff_ne.2 hq) g6
end Go.Proofs.YtnjedigjabijcaaDoor
