import Derived.Test.YtnjedigjabijcaaDoorArc
namespace Go.Proofs.YtnjedigjabijcaaDoor
open Go Go.RowKit

def arcsinE (lo hi : Int) : (Int × Int) × Int :=
  if inB lo hi (-100000000) 100000000 then ((-((arcN (-lo) : Int) - 90000000), (arcN hi : Int) - 90000000), 0) else ((0, 0), 7)

set_option maxRecDepth 100000 in
set_option maxHeartbeats 4000000 in
theorem arcsin_any (lo hi : Int) (w : World) :
    Calls Tryd.prog 25 #[.agg #[.int .i64 lo, .int .i64 hi]] w fun e w' => e = .returned (pairV (arcsinE lo hi).1 (arcsinE lo hi).2) ∧ Below w.heap.size w w' := by
  have SA0 := (Slot2.new w (.int .i64 lo) (.int .i64 hi) 23).alloc (.cells #[.int .i64 0, .int .i64 0] 23)
  have SR0 := Slot2.new (w.alloc (.cells #[.int .i64 lo, .int .i64 hi] 23)) (.int .i64 0) (.int .i64 0) 23
  simp only [World.size_alloc] at SR0
  have hW : Below w.heap.size w ((w.alloc (.cells #[.int .i64 lo, .int .i64 hi] 23)).alloc (.cells #[.int .i64 0, .int .i64 0] 23)) := by go_grown
  go_enter Tryd.func25, Tryd.ntmps25
  go_wp2_with fail
  refine (within_any lo hi (-100000000) 100000000 _).mono ?_
  rintro e w1 ⟨rfl, hB1⟩
  simp only [World.size_alloc] at hB1
  have SA := SA0.below hB1 (by omega)
  have SR := SR0.below hB1 (by omega)
  have hB := hW.trans (hB1.mono (by omega))
  clear SA0 SR0 hW hB1
  cases hc : inB lo hi (-100000000) 100000000
  · have E : Hid (arcsinE lo hi = ((0, 0), 7)) := by unfold arcsinE; rw [hc]; exact rfl
    clear hc
    have SF := (SR.set0 (.int .i64 0)).set1 (.int .i64 0)
    have HB := Lib.hid ((hB.setCell (p := ⟨w.heap.size + 1, 0, none⟩) (by simp) (.int .i64 0)).setCell (p := ⟨w.heap.size + 1, 1, none⟩) (by simp) (.int .i64 0))
    obtain ⟨liesR, r0, r1, rf0, rf1⟩ := SR
    clear hB
    go_wp2
    refine bodyPost_ret (v := pairV (0, 0) 7) (by simp [results, Tryd.results25, go_sem, SF.cell0, SF.cell1]; exact rfl) rfl ⟨by rw [E.out], HB.out⟩
  · obtain ⟨i1, i2, i3⟩ := inB_yes hc
    have E : Hid (arcsinE lo hi = ((-((arcN (-lo) : Int) - 90000000), (arcN hi : Int) - 90000000), 0)) := by unfold arcsinE; rw [hc]; exact rfl
    clear hc
    have n1 := arcN_le (-lo)
    have n2 := arcN_le hi
    have a0 := SA.cell0
    have a1 := SA.cell1
    go_wp2_with fail
    have q1 : IntKind.i64.wrap (-lo) = -lo := IntWalk.i64_in _ (by omega)
    have q2 : IntKind.i64.wrap (-((arcN (-lo) : Int) - 90000000)) = -((arcN (-lo) : Int) - 90000000) := IntWalk.i64_in _ (by omega)
    go_region_with (first
      | (go_at_call 53; refine (arcUp_any _ _).mono ?_; rintro e wN ⟨rfl, hN⟩
         first
         | (have SA3 := SA2.below hN SA2.lies; have SR3 := SR2.below hN SR2.lies; have B3 := B2.trans (hN.mono B2.size); have c0 := SA3.cell0; have c1 := SA3.cell1; have r0 := SR3.cell0; have r1 := SR3.cell1; have rf0 := SR3.free0; have rf1 := SR3.free1)
         | (have SA2 := SA.below (undrew hN) SA.lies; have SR2 := SR.below (undrew hN) SR.lies; have B2 := hB.trans ((undrew hN).mono hB.size); have b0 := SA2.cell0; have b1 := SA2.cell1)))
    all_goals
      have SF := (SR3.set0 (.int .i64 (-((arcN (-lo) : Int) - 90000000)))).set1 (.int .i64 ((arcN hi : Int) - 90000000))
      clear q1 q2
      go_wp2_with fail
      refine bodyPost_ret (v := pairV (-((arcN (-lo) : Int) - 90000000), (arcN hi : Int) - 90000000) 0) (by simp [results, Tryd.results25, go_sem, SF.cell0, SF.cell1]; exact rfl) rfl ⟨by rw [E.out], (B3.setCell (p := ⟨w.heap.size + 1, 0, none⟩) (by simp) _).setCell (p := ⟨w.heap.size + 1, 1, none⟩) (by simp) _⟩

theorem arcsinE_ok (lo hi : Int) (h : inB lo hi (-100000000) 100000000 = true) : arcsinE lo hi = ((-((arcN (-lo) : Int) - 90000000), (arcN hi : Int) - 90000000), 0) := by unfold arcsinE; rw [h]; rfl
theorem arcsinE_no (lo hi : Int) (h : inB lo hi (-100000000) 100000000 = false) : arcsinE lo hi = ((0, 0), 7) := by unfold arcsinE; rw [h]; rfl
def arccosE (lo hi : Int) : (Int × Int) × Int :=
  if (arcsinE lo hi).2 = 0 then ((90000000 - (arcsinE lo hi).1.2, 90000000 - (arcsinE lo hi).1.1), 0) else ((0, 0), (arcsinE lo hi).2)

set_option maxHeartbeats 1000000 in
theorem arccos_any (lo hi : Int) (w : World) :
    Calls Tryd.prog 23 #[.agg #[.int .i64 lo, .int .i64 hi]] w fun e w' => e = .returned (pairV (arccosE lo hi).1 (arccosE lo hi).2) ∧ Below w.heap.size w w' := by
  have SR0 := Slot2.new (w.alloc (.cells #[.int .i64 lo, .int .i64 hi] 23)) (.int .i64 0) (.int .i64 0) 23
  simp only [World.size_alloc] at SR0
  have hW : Below w.heap.size w ((w.alloc (.cells #[.int .i64 lo, .int .i64 hi] 23)).alloc (.cells #[.int .i64 0, .int .i64 0] 23)) := by go_grown
  cases hc : inB lo hi (-100000000) 100000000
  · have E1 := Lib.hid (arcsinE_no lo hi hc)
    have E : Hid (arccosE lo hi = ((0, 0), 7)) := by unfold arccosE; rw [E1.out]; exact rfl
    clear hc
    go_enter Tryd.func23, Tryd.ntmps23
    go_wp2_with fail
    refine (arcsin_any lo hi _).mono ?_
    rw [E1.out]
    unfold pairV
    rintro e w1 ⟨rfl, hB1⟩
    simp only [World.size_alloc] at hB1
    have SR := (SR0.below hB1 (by omega)).alloc (.cells #[.int .i64 0, .int .i64 0] 23)
    have hB := hW.trans (hB1.mono (by omega))
    have hB' := hB.trans ((alloc_below w1 (.cells #[.int .i64 0, .int .i64 0] 23)).mono hB.size)
    clear SR0 hW hB1 hB
    have SF := (SR.set0 (.int .i64 0)).set1 (.int .i64 0)
    have HB := Lib.hid ((hB'.setCell (p := ⟨w.heap.size + 1, 0, none⟩) (by simp) (.int .i64 0)).setCell (p := ⟨w.heap.size + 1, 1, none⟩) (by simp) (.int .i64 0))
    obtain ⟨liesR, r0, r1, rf0, rf1⟩ := SR
    clear hB'
    go_wp2
    refine bodyPost_ret (v := pairV (0, 0) 7) (by simp [results, Tryd.results23, go_sem, SF.cell0, SF.cell1]; exact rfl) rfl ⟨by rw [E.out], HB.out⟩
  · have E1 := Lib.hid (arcsinE_ok lo hi hc)
    have E : Hid (arccosE lo hi = ((90000000 - ((arcN hi : Int) - 90000000), 90000000 - (-((arcN (-lo) : Int) - 90000000))), 0)) := by unfold arccosE; rw [E1.out]; exact rfl
    clear hc
    have n1 := arcN_le (-lo)
    have n2 := arcN_le hi
    go_enter Tryd.func23, Tryd.ntmps23
    go_wp2_with fail
    refine (arcsin_any lo hi _).mono ?_
    rw [E1.out]
    unfold pairV
    rintro e w1 ⟨rfl, hB1⟩
    simp only [World.size_alloc] at hB1
    simp only
    have b1 : -90000000 ≤ -((arcN (-lo) : Int) - 90000000) ∧ -((arcN (-lo) : Int) - 90000000) ≤ 90000000 := by omega
    have b2 : -90000000 ≤ (arcN hi : Int) - 90000000 ∧ (arcN hi : Int) - 90000000 ≤ 90000000 := by omega
    generalize -((arcN (-lo) : Int) - 90000000) = r at *
    generalize (arcN hi : Int) - 90000000 = s at *
    clear n1 n2 E1
    have SR := (SR0.below hB1 (by omega)).alloc (.cells #[.int .i64 r, .int .i64 s] 23)
    have hB := hW.trans (hB1.mono (by omega))
    have hB' := hB.trans ((alloc_below w1 (.cells #[.int .i64 r, .int .i64 s] 23)).mono hB.size)
    clear SR0 hW hB1 hB
    have SF := (SR.set0 (.int .i64 (90000000 - s))).set1 (.int .i64 (90000000 - r))
    have HB := Lib.hid ((hB'.setCell (p := ⟨w.heap.size + 1, 0, none⟩) (by simp) (.int .i64 (90000000 - s))).setCell (p := ⟨w.heap.size + 1, 1, none⟩) (by simp) (.int .i64 (90000000 - r)))
    obtain ⟨liesR, r0, r1, rf0, rf1⟩ := SR
    clear hB'
    go_wp2
    refine bodyPost_ret (v := pairV (90000000 - s, 90000000 - r) 0) (by simp [results, Tryd.results23, go_sem, SF.cell0, SF.cell1]; exact rfl) rfl ⟨by rw [E.out], HB.out⟩
end Go.Proofs.YtnjedigjabijcaaDoor
