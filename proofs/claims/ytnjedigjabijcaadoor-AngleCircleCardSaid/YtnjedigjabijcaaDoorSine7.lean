import Derived.Test.YtnjedigjabijcaaDoorSine6
namespace Go.Proofs.YtnjedigjabijcaaDoor
open Go Go.RowKit

/-- An enclosure and an error. -/
def pairV (p : Int × Int) (e : Int) : Value := .tuple #[.agg #[.int .i64 p.1, .int .i64 p.2], .int .i64 e]
def sinOfE (lo hi : Int) : (Int × Int) × Int := if inB lo hi (-3600000000) 3600000000 then (sinesE lo hi, 0) else ((0, 0), 7)

theorem inB_yes {lo hi a b : Int} (h : inB lo hi a b = true) : a ≤ lo ∧ lo ≤ hi ∧ hi ≤ b := by
  unfold inB at h
  simp only [Bool.and_eq_true, decide_eq_true_eq] at h
  omega

set_option maxHeartbeats 1000000 in
theorem sinOf_any (lo hi : Int) (w : World) :
    Calls Tryd.prog 18 #[.agg #[.int .i64 lo, .int .i64 hi]] w fun e w' => e = .returned (pairV (sinOfE lo hi).1 (sinOfE lo hi).2) ∧ Below w.heap.size w w' := by
  have SA0 := (Slot2.new w (.int .i64 lo) (.int .i64 hi) 23).alloc (.cells #[.int .i64 0, .int .i64 0] 23)
  have SR0 := Slot2.new (w.alloc (.cells #[.int .i64 lo, .int .i64 hi] 23)) (.int .i64 0) (.int .i64 0) 23
  simp only [World.size_alloc] at SR0
  have hW : Below w.heap.size w ((w.alloc (.cells #[.int .i64 lo, .int .i64 hi] 23)).alloc (.cells #[.int .i64 0, .int .i64 0] 23)) := by go_grown
  go_enter Tryd.func18, Tryd.ntmps18
  go_wp2_with fail
  refine (within_any lo hi (-3600000000) 3600000000 _).mono ?_
  rintro e w1 ⟨rfl, hB1⟩
  simp only [World.size_alloc] at hB1
  have SA := SA0.below hB1 (by omega)
  have SR := SR0.below hB1 (by omega)
  have hB := hW.trans (hB1.mono (by omega))
  clear SA0 SR0 hW hB1
  cases hc : inB lo hi (-3600000000) 3600000000
  · have E : Hid (sinOfE lo hi = ((0, 0), 7)) := by unfold sinOfE; rw [hc]; exact rfl
    clear hc
    have SF := (SR.set0 (.int .i64 0)).set1 (.int .i64 0)
    have HB := Lib.hid ((hB.setCell (p := ⟨w.heap.size + 1, 0, none⟩) (by simp) (.int .i64 0)).setCell (p := ⟨w.heap.size + 1, 1, none⟩) (by simp) (.int .i64 0))
    obtain ⟨liesR, r0, r1, rf0, rf1⟩ := SR
    clear hB
    go_wp2
    refine bodyPost_ret (v := pairV (0, 0) 7) (by simp [results, Tryd.results18, go_sem, SF.cell0, SF.cell1]; exact rfl) rfl ⟨by rw [E.out], HB.out⟩
  · obtain ⟨i1, i2, i3⟩ := inB_yes hc
    have E : Hid (sinOfE lo hi = (sinesE lo hi, 0)) := by unfold sinOfE; rw [hc]; exact rfl
    clear hc
    have SA' := SA
    obtain ⟨liesA, a0, a1, af0, af1⟩ := SA'
    go_wp2_with fail
    refine (sines_any lo hi (by omega) (by omega) (by omega) (by omega) _).mono ?_
    rintro e w2 ⟨rfl, hB2⟩
    have SR2 := SR.below hB2 SR.lies
    have SF := (SR2.set0 (.int .i64 (sinesE lo hi).1)).set1 (.int .i64 (sinesE lo hi).2)
    have hB' := hB.trans (hB2.mono hB.size)
    have HB := Lib.hid ((hB'.setCell (p := ⟨w.heap.size + 1, 0, none⟩) (by simp) (.int .i64 (sinesE lo hi).1)).setCell (p := ⟨w.heap.size + 1, 1, none⟩) (by simp) (.int .i64 (sinesE lo hi).2))
    obtain ⟨liesR, r0, r1, rf0, rf1⟩ := SR2
    clear hB hB' hB2 SA SR a0 a1 af0 af1
    go_wp2
    refine bodyPost_ret (v := pairV (sinesE lo hi) 0) (by simp [results, Tryd.results18, go_sem, SF.cell0, SF.cell1]; exact rfl) rfl ⟨by rw [E.out], HB.out⟩
end Go.Proofs.YtnjedigjabijcaaDoor
