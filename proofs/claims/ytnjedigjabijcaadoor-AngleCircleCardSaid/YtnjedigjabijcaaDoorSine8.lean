import Derived.Test.YtnjedigjabijcaaDoorSine7
namespace Go.Proofs.YtnjedigjabijcaaDoor
open Go Go.RowKit

set_option maxHeartbeats 1000000 in
theorem sin_any (a : Int) (w : World) :
    Calls Tryd.prog 14 #[.int .i64 a] w fun e w' => e = .returned (pairV (sinOfE a a).1 (sinOfE a a).2) ∧ Below w.heap.size w w' := by
  have SR0 := Slot2.new w (.int .i64 0) (.int .i64 0) 23
  have hW : Below w.heap.size w (w.alloc (.cells #[.int .i64 0, .int .i64 0] 23)) := by go_grown
  go_enter Tryd.func14, Tryd.ntmps14
  go_wp2_with fail
  refine (sinOf_any a a _).mono ?_
  unfold pairV
  rintro e w1 ⟨rfl, hB1⟩
  have SR := SR0.below hB1 SR0.lies
  have hB := hW.trans (hB1.mono hW.size)
  have SF := (SR.set0 (.int .i64 (sinOfE a a).1.1)).set1 (.int .i64 (sinOfE a a).1.2)
  have HB := Lib.hid ((hB.setCell (p := ⟨w.heap.size, 0, none⟩) (by simp) (.int .i64 (sinOfE a a).1.1)).setCell (p := ⟨w.heap.size, 1, none⟩) (by simp) (.int .i64 (sinOfE a a).1.2))
  obtain ⟨liesR, r0, r1, rf0, rf1⟩ := SR
  clear hB SR0 hW hB1
  go_wp2
  refine bodyPost_ret (v := pairV (sinOfE a a).1 (sinOfE a a).2) (by simp [results, Tryd.results14, go_sem, SF.cell0, SF.cell1]; exact rfl) rfl ⟨rfl, HB.out⟩

def cosOfE (lo hi : Int) : (Int × Int) × Int := if inB lo hi (-3600000000) 3600000000 then (sinesE (lo + 90000000) (hi + 90000000), 0) else ((0, 0), 7)

set_option maxHeartbeats 1000000 in
theorem cosOf_any (lo hi : Int) (w : World) :
    Calls Tryd.prog 20 #[.agg #[.int .i64 lo, .int .i64 hi]] w fun e w' => e = .returned (pairV (cosOfE lo hi).1 (cosOfE lo hi).2) ∧ Below w.heap.size w w' := by
  have SA0 := (Slot2.new w (.int .i64 lo) (.int .i64 hi) 23).alloc (.cells #[.int .i64 0, .int .i64 0] 23)
  have SR0 := Slot2.new (w.alloc (.cells #[.int .i64 lo, .int .i64 hi] 23)) (.int .i64 0) (.int .i64 0) 23
  simp only [World.size_alloc] at SR0
  have hW : Below w.heap.size w ((w.alloc (.cells #[.int .i64 lo, .int .i64 hi] 23)).alloc (.cells #[.int .i64 0, .int .i64 0] 23)) := by go_grown
  go_enter Tryd.func20, Tryd.ntmps20
  go_wp2_with fail
  refine (within_any lo hi (-3600000000) 3600000000 _).mono ?_
  rintro e w1 ⟨rfl, hB1⟩
  simp only [World.size_alloc] at hB1
  have SA := SA0.below hB1 (by omega)
  have SR := SR0.below hB1 (by omega)
  have hB := hW.trans (hB1.mono (by omega))
  clear SA0 SR0 hW hB1
  cases hc : inB lo hi (-3600000000) 3600000000
  · have E : Hid (cosOfE lo hi = ((0, 0), 7)) := by unfold cosOfE; rw [hc]; exact rfl
    clear hc
    have SF := (SR.set0 (.int .i64 0)).set1 (.int .i64 0)
    have HB := Lib.hid ((hB.setCell (p := ⟨w.heap.size + 1, 0, none⟩) (by simp) (.int .i64 0)).setCell (p := ⟨w.heap.size + 1, 1, none⟩) (by simp) (.int .i64 0))
    obtain ⟨liesR, r0, r1, rf0, rf1⟩ := SR
    clear hB
    go_wp2
    refine bodyPost_ret (v := pairV (0, 0) 7) (by simp [results, Tryd.results20, go_sem, SF.cell0, SF.cell1]; exact rfl) rfl ⟨by rw [E.out], HB.out⟩
  · obtain ⟨i1, i2, i3⟩ := inB_yes hc
    have E : Hid (cosOfE lo hi = (sinesE (lo + 90000000) (hi + 90000000), 0)) := by unfold cosOfE; rw [hc]; exact rfl
    clear hc
    have SA' := SA
    obtain ⟨liesA, a0, a1, af0, af1⟩ := SA'
    go_wp2_with fail
    refine (sines_any (lo + 90000000) (hi + 90000000) (by omega) (by omega) (by omega) (by omega) _).mono ?_
    rintro e w2 ⟨rfl, hB2⟩
    have SR2 := SR.below hB2 SR.lies
    generalize sinesE (lo + 90000000) (hi + 90000000) = p at *
    have SF := (SR2.set0 (.int .i64 p.1)).set1 (.int .i64 p.2)
    have hB' := hB.trans (hB2.mono hB.size)
    have HB := Lib.hid ((hB'.setCell (p := ⟨w.heap.size + 1, 0, none⟩) (by simp) (.int .i64 p.1)).setCell (p := ⟨w.heap.size + 1, 1, none⟩) (by simp) (.int .i64 p.2))
    obtain ⟨liesR, r0, r1, rf0, rf1⟩ := SR2
    clear hB hB' hB2 SA SR a0 a1 af0 af1
    go_wp2
    refine bodyPost_ret (v := pairV p 0) (by simp [results, Tryd.results20, go_sem, SF.cell0, SF.cell1]; exact rfl) rfl ⟨by rw [E.out], HB.out⟩

set_option maxHeartbeats 1000000 in
theorem cos_any (a : Int) (w : World) :
    Calls Tryd.prog 16 #[.int .i64 a] w fun e w' => e = .returned (pairV (cosOfE a a).1 (cosOfE a a).2) ∧ Below w.heap.size w w' := by
  have SR0 := Slot2.new w (.int .i64 0) (.int .i64 0) 23
  have hW : Below w.heap.size w (w.alloc (.cells #[.int .i64 0, .int .i64 0] 23)) := by go_grown
  go_enter Tryd.func16, Tryd.ntmps16
  go_wp2_with fail
  refine (cosOf_any a a _).mono ?_
  unfold pairV
  rintro e w1 ⟨rfl, hB1⟩
  have SR := SR0.below hB1 SR0.lies
  have hB := hW.trans (hB1.mono hW.size)
  have SF := (SR.set0 (.int .i64 (cosOfE a a).1.1)).set1 (.int .i64 (cosOfE a a).1.2)
  have HB := Lib.hid ((hB.setCell (p := ⟨w.heap.size, 0, none⟩) (by simp) (.int .i64 (cosOfE a a).1.1)).setCell (p := ⟨w.heap.size, 1, none⟩) (by simp) (.int .i64 (cosOfE a a).1.2))
  obtain ⟨liesR, r0, r1, rf0, rf1⟩ := SR
  clear hB SR0 hW hB1
  go_wp2
  refine bodyPost_ret (v := pairV (cosOfE a a).1 (cosOfE a a).2) (by simp [results, Tryd.results16, go_sem, SF.cell0, SF.cell1]; exact rfl) rfl ⟨rfl, HB.out⟩

set_option maxHeartbeats 1000000 in
theorem x_any (a b : Int) (w : World) :
    Calls Tryd.prog 46 #[.int .i64 a, .int .i64 b] w fun e w' => e = .returned (.agg #[.int .i64 a, .int .i64 b]) ∧ Below w.heap.size w w' := by
  go_enter Tryd.func46, Tryd.ntmps46
  go_wp2
  go_returns
  exact ⟨rfl, by go_grown⟩
end Go.Proofs.YtnjedigjabijcaaDoor
