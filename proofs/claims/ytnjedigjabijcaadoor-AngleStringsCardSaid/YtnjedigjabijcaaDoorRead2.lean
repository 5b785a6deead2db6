import Derived.Test.YtnjedigjabijcaaDoorRead1
namespace Go.Proofs.YtnjedigjabijcaaDoor
open Go Go.RowKit

/-- The cell of the library's variable holds some number. -/
def MaxTab (V : World) : Prop := ∃ m, V.cell? ⟨2, 0, none⟩ = some (.int .i64 m)
theorem MaxTab.below {V V' : World} (h : MaxTab V) (hb : Below V.heap.size V V') : MaxTab V' := by
  obtain ⟨m, hm⟩ := h
  exact ⟨m, by rw [hb.cell (World.block_lt_of_cell? V _ hm), hm]⟩
def sizeV (o : Option Int) : Value := .tuple #[.int .i64 (o.getD 0), .bool o.isSome]
theorem repeat_zero (c : Nat) : Lib.repeatL [48] c = List.replicate c 48 := by
  induction c with
  | zero => rfl
  | succ c ih => rw [Lib.repeatL, ih]; rfl
theorem cut_le (l : List UInt8) : (Lib.cut l [46]).1.length ≤ l.length ∧ (Lib.cut l [46]).2.1.length ≤ l.length := by
  unfold Lib.cut
  split
  · simp only [List.length_take, List.length_drop]; omega
  · simp
theorem cut_bare (l : List UInt8) (h : (Lib.cut l [46]).2.2 = false) : (Lib.cut l [46]).2.1 = [] := by
  revert h
  unfold Lib.cut
  split <;> simp
theorem size_no1 (l : List UInt8) (h : digsB (Lib.cut l [46]).1 3 = false) : sizeE l = none := by unfold sizeE; rw [h]; rfl
theorem size_no2 (l : List UInt8) (h : digsB (Lib.cut l [46]).1 3 = true) (h1 : (Lib.cut l [46]).2.2 = true) (h2 : digsB (Lib.cut l [46]).2.1 6 = false) : sizeE l = none := by unfold sizeE; rw [h, h1, h2]; rfl
theorem size_yes (l : List UInt8) (h : digsB (Lib.cut l [46]).1 3 = true) (h1 : (Lib.cut l [46]).2.2 = false ∨ digsB (Lib.cut l [46]).2.1 6 = true) :
    sizeE l = some (numI ((Lib.cut l [46]).1 ++ (Lib.cut l [46]).2.1 ++ List.replicate (6 - (Lib.cut l [46]).2.1.length) 48)) := by
  unfold sizeE
  rw [if_pos]
  rcases h1 with h1 | h1 <;> simp [h, h1]
theorem size_digits (d f : List UInt8) (h : digsB d 3 = true) (h1 : f = [] ∨ digsB f 6 = true) : (d ++ f ++ List.replicate (6 - f.length) 48).all digB = true ∧ (d ++ f ++ List.replicate (6 - f.length) 48).length ≤ 9 ∧ f.length ≤ 6 := by
  simp only [digsB, Bool.and_eq_true, decide_eq_true_eq] at h h1
  have hz : (List.replicate (6 - f.length) (48 : UInt8)).all digB = true := by
    rw [List.all_eq_true]
    intro c hc
    rw [(List.mem_replicate.1 hc).2]
    decide
  refine ⟨?_, ?_, ?_⟩
  · rw [List.all_append, List.all_append, hz, h.1.1]
    rcases h1 with rfl | h1
    · rfl
    · rw [h1.1.1]; rfl
  · simp only [List.length_append, List.length_replicate]
    rcases h1 with rfl | h1
    · simp; omega
    · omega
  · rcases h1 with rfl | h1
    · simp
    · omega
theorem digits_of (l : List UInt8) (m : Nat) (hs : l.length ≤ 1000) (w : World) :
    Calls Tryd.prog 88 #[.string ⟨l.toArray⟩, .int .i64 m] w fun e w' => e = .returned (.bool (digsB l m)) ∧ w = w' := isDigits_any ⟨l.toArray⟩ m hs w
theorem number_of (l : List UInt8) (hs : l.length ≤ 9) (ha : l.all digB = true) (w : World) :
    Calls Tryd.prog 90 #[.string ⟨l.toArray⟩] w fun e w' => e = .returned (.int .i64 (numI l)) ∧ w = w' := number_any ⟨l.toArray⟩ hs ha w

set_option maxHeartbeats 2000000 in
theorem readSize_any (l : List UInt8) (hs : l.length ≤ 20) (w : World) (hm : MaxTab w) :
    Calls Tryd.prog 68 #[.string ⟨l.toArray⟩] w fun e w' => e = .returned (sizeV (sizeE l)) ∧ Below w.heap.size w w' := by
  obtain ⟨m, hm⟩ := hm
  obtain ⟨l1, l2⟩ := cut_le l
  have E1 := Lib.hid (size_no1 l)
  have E2 := Lib.hid (size_no2 l)
  have E3 := Lib.hid (size_yes l)
  have EB := Lib.hid (cut_bare l)
  have CC := Lib.hid (Tryd.strings_Cut ⟨l.toArray⟩ ⟨#[46]⟩ m w (by show l.length < _; omega) hm)
  have e0 : (⟨l.toArray⟩ : ByteArray).data.toList = l := rfl
  have e1 : (⟨#[46]⟩ : ByteArray).data.toList = [46] := rfl
  rw [e0, e1] at CC
  clear e0 e1 hm
  generalize sizeE l = o at *
  generalize Lib.cut l [46] = c at *
  obtain ⟨d, f, p⟩ := c
  simp only at *
  go_enter Tryd.func68, Tryd.ntmps68
  go_wp2_with fail
  refine CC.out.mono ?_
  rintro e w1 ⟨rfl, n, rfl⟩
  go_wp2_with fail
  refine (digits_of d 3 (by omega) _).mono ?_
  rintro e w1 ⟨rfl, rfl⟩
  cases hA : digsB d 3
  · have E := Lib.hid (E1.out hA)
    clear hA E1 E2 E3 EB CC
    go_wp2_with fail
    go_ret2
    exact ⟨by rw [E.out]; rfl, below_drewN (Below.refl _ _) _⟩
  · cases p
    · have hf := EB.out rfl
      have E := Lib.hid ((E3.out hA (Or.inl rfl)).trans (by rw [List.append_assoc]))
      have HL := Lib.hid (size_digits d f hA (Or.inl hf))
      have hf6 := HL.out.2.2
      have hcast : (6 : Int) - (f.length : Int) = ((6 - f.length : Nat) : Int) := by omega
      clear hA E1 E2 E3 EB CC hf
      go_wp2_with fail
      clear hcast
      refine (Tryd.strings_Repeat ⟨#[48]⟩ (6 - f.length) _ (by omega) (by show 1 * (6 - f.length) ≤ _; omega)).mono ?_
      rintro e w2 ⟨rfl, hB⟩
      have HB := Lib.hid ((below_drewN (Below.refl w.heap.size w) n).trans (hB.mono (by exact Nat.le_refl _)))
      clear hB
      have e48 : (⟨#[48]⟩ : ByteArray).data.toList = [48] := rfl
      rw [e48, repeat_zero]
      clear e48
      go_wp2_with fail
      rw [append_bytes, append_bytes]
      refine (number_of _ HL.out.2.1 HL.out.1 _).mono ?_
      rintro e w3 ⟨rfl, rfl⟩
      go_wp2_with fail
      go_ret2
      exact ⟨by rw [E.out]; rfl, HB.out⟩
    · go_wp2_with fail
      refine (digits_of f 6 (by omega) _).mono ?_
      rintro e w1 ⟨rfl, rfl⟩
      cases hB6 : digsB f 6
      · have E := Lib.hid (E2.out hA trivial hB6)
        clear hA hB6 E1 E2 E3 EB CC
        go_wp2_with fail
        go_ret2
        exact ⟨by rw [E.out]; rfl, below_drewN (Below.refl _ _) _⟩
      · have E := Lib.hid ((E3.out hA (Or.inr hB6)).trans (by rw [List.append_assoc]))
        have HL := Lib.hid (size_digits d f hA (Or.inr hB6))
        have hf6 := HL.out.2.2
        have hcast : (6 : Int) - (f.length : Int) = ((6 - f.length : Nat) : Int) := by omega
        clear hA hB6 E1 E2 E3 EB CC
        go_wp2_with fail
        clear hcast
        refine (Tryd.strings_Repeat ⟨#[48]⟩ (6 - f.length) _ (by omega) (by show 1 * (6 - f.length) ≤ _; omega)).mono ?_
        rintro e w2 ⟨rfl, hB⟩
        have HB := Lib.hid ((below_drewN (Below.refl w.heap.size w) n).trans (hB.mono (by exact Nat.le_refl _)))
        clear hB
        have e48 : (⟨#[48]⟩ : ByteArray).data.toList = [48] := rfl
        rw [e48, repeat_zero]
        clear e48
        go_wp2_with fail
        rw [append_bytes, append_bytes]
        refine (number_of _ HL.out.2.1 HL.out.1 _).mono ?_
        rintro e w3 ⟨rfl, rfl⟩
        go_wp2_with fail
        go_ret2
        exact ⟨by rw [E.out]; rfl, HB.out⟩
end Go.Proofs.YtnjedigjabijcaaDoor
