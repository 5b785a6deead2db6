import Derived.Test.YtnjedigjabijcaaDoorStr
import Derived.Deep.RegionWith
namespace Go.Proofs.YtnjedigjabijcaaDoor
open Go Go.RowKit

def bN : ByteArray := ⟨#[78]⟩
def bS : ByteArray := ⟨#[83]⟩
def bE : ByteArray := ⟨#[69]⟩
def bW : ByteArray := ⟨#[87]⟩
def mark0 : Value := .agg #[.string bN, .int .i64 0, .int .i64 1, .int .i64 90000000]
def mark1 : Value := .agg #[.string bS, .int .i64 0, .int .i64 (-1), .int .i64 90000000]
def mark2 : Value := .agg #[.string bE, .int .i64 1, .int .i64 1, .int .i64 180000000]
def mark3 : Value := .agg #[.string bW, .int .i64 1, .int .i64 (-1), .int .i64 180000000]
def marksL : List Value := [.string bN, .int .i64 0, .int .i64 1, .int .i64 90000000, .string bS, .int .i64 0, .int .i64 (-1), .int .i64 90000000,
  .string bE, .int .i64 1, .int .i64 1, .int .i64 180000000, .string bW, .int .i64 1, .int .i64 (-1), .int .i64 180000000]
/-- The table of the letters, as the program's text lays it. -/
def MarkTab (V : World) : Prop := V.var? Tryd.prog "linkboy/angle.marks" = some marksL.toArray
theorem gMarks : Tryd.prog.globalNamed "linkboy/angle.marks" = some 0 := by kernel_rfl
theorem MarkTab.lt {V : World} (h : MarkTab V) : 0 < V.heap.size := by
  unfold MarkTab World.var? at h
  rw [gMarks] at h
  simp only [Option.bind_some] at h
  rcases Nat.lt_or_ge 0 V.heap.size with h' | h'
  · exact h'
  · rw [Array.getElem?_eq_none h'] at h; cases h
theorem MarkTab.below {V V' : World} (h : MarkTab V) (hb : Below V.heap.size V V') : MarkTab V' := by
  have hlt := h.lt
  unfold MarkTab World.var? at h ⊢
  rw [gMarks] at h ⊢
  simp only [Option.bind_some] at h ⊢
  rw [hb.block 0 hlt]
  exact h

theorem MarkTab.block {V : World} (h : MarkTab V) : ∃ t fr, V.heap[0]? = some (.cells marksL.toArray t fr) := by
  unfold MarkTab World.var? at h
  rw [gMarks] at h
  simp only [Option.bind_some] at h
  split at h
  · rename_i cs t fr he
    exact ⟨t, fr, by rw [he]; simpa using h⟩
  · cases h

theorem idx0 (w : World) : (Instr.index 72 (.agg marksL.toArray) (.int .i64 0)).run Tryd.prog w = .ok mark0 w := by kernel_rfl
theorem idx1 (w : World) : (Instr.index 72 (.agg marksL.toArray) (.int .i64 1)).run Tryd.prog w = .ok mark1 w := by kernel_rfl
theorem idx2 (w : World) : (Instr.index 72 (.agg marksL.toArray) (.int .i64 2)).run Tryd.prog w = .ok mark2 w := by kernel_rfl
theorem idx3 (w : World) : (Instr.index 72 (.agg marksL.toArray) (.int .i64 3)).run Tryd.prog w = .ok mark3 w := by kernel_rfl
theorem info72 : (Tryd.prog.info? 72).map (·.size) = some marksL.toArray.size := by kernel_rfl

/-- What the document says of Write. -/
def writeE (a axis : Int) : List UInt8 × Int :=
  if axis = 0 then (if a < -90000000 ∨ 90000000 < a then ([], 7) else (if a < 0 then sizeL (-a) ++ [83] else sizeL a ++ [78], 0))
  else if axis = 1 then (if a < -180000000 ∨ 180000000 < a then ([], 7) else (if a < 0 then sizeL (-a) ++ [87] else sizeL a ++ [69], 0))
  else ([], 2)

def WRelP (axis : Int) (w : World) (s : Value) (wr : World) : Prop :=
  ∃ k : Nat, k ≤ 4 ∧ s = .int .i64 k ∧ Below w.heap.size w wr ∧ (1 ≤ k → axis ≠ 0) ∧ (3 ≤ k → axis ≠ 1)
def textV (l : List UInt8) (e : Int) : Value := .tuple #[.string ⟨l.toArray⟩, .int .i64 e]

theorem PowTab.drew {V : World} (h : PowTab V) : PowTab V.drew := h
theorem sizeL_le (n : Int) (h0 : 0 ≤ n) (h1 : n ≤ 180000000) : (sizeL n).length ≤ 50 := by
  have a := Lib.itoa_length_le (n / 1000000) (by omega) (by omega)
  have b := Lib.itoa_length_le (1000000 + n % 1000000) (by omega) (by omega)
  have c := trimRightB_le ((Lib.itoa (1000000 + n % 1000000)).drop 1) 48
  rw [List.length_drop] at c
  unfold sizeL
  split
  · omega
  · simp only [List.length_append, List.length_cons, List.length_nil]; omega
theorem str_no {l : List UInt8} {b : ByteArray} (h : l.length ≤ 50) (hb : b.size = 1) : ¬ 9223372036854775807 < l.length + b.size := by omega
theorem block4 (V : World) (x y z u : Value) (T : TypeId) : (V.alloc (.cells #[x, y, z, u] T)).cell? ⟨V.heap.size, 0, none⟩ = some x := by
  rw [World.cell?_alloc_at _ _ _ _ (by simp)]; rfl

def WRelN (axis : Int) (w : World) (s : Value) (wr : World) : Prop :=
  ∃ k : Nat, k ≤ 4 ∧ s = .int .i64 k ∧ Below w.heap.size w wr ∧ (2 ≤ k → axis ≠ 0) ∧ (4 ≤ k → axis ≠ 1)
theorem ret_text {b : ByteArray} {l : List UInt8} (h : b = ⟨l.toArray⟩) : Ending.returned (.tuple #[.string b, .int .i64 0]) = .returned (textV l 0) := by rw [h]; rfl

set_option maxRecDepth 100000 in
set_option maxHeartbeats 4000000 in
theorem write_pos (a axis : Int) (h0 : 0 ≤ a) (h1 : a ≤ 9223372036854775807) (w : World) (hm : MarkTab w) (hp : PowTab w) :
    Calls Tryd.prog 39 #[.int .i64 a, .int .i64 axis] w fun e w' => e = .returned (textV (writeE a axis).1 (writeE a axis).2) ∧ Below w.heap.size w w' := by
  obtain ⟨mt, mf, hblk⟩ := hm.block
  have hi := info72
  have i0 := idx0
  have i1 := idx1
  have i2 := idx2
  have i3 := idx3
  unfold mark0 at i0
  unfold mark1 at i1
  unfold mark2 at i2
  unfold mark3 at i3
  have HP := Lib.hid hp
  clear hp hm
  generalize marksL.toArray = M at *
  go_enter Tryd.func39, Tryd.ntmps39
  go_wp2_with (first | (refine wpList_load_row rfl 72 (.global 0) rfl 0 rfl mt M mf _ hblk Tryd.underlying72 rfl hi ?_) | fail)
  clear hblk hi
  go_loopw [12] (fun s wr => WRelP axis w s wr) (fun s _ => 4 - (intOf s).toNat)
  case atStart => exact ⟨0, by omega, rfl, Below.refl _ _, by omega, by omega⟩
  case round =>
    obtain ⟨k, hk, rfl, hB, n0, n1⟩ := hrel
    have hz := hB.size
    obtain rfl | rfl | rfl | rfl | rfl : k = 0 ∨ k = 1 ∨ k = 2 ∨ k = 3 ∨ k = 4 := by omega
    · clear n0 n1
      by_cases hx : axis = 0
      · subst hx
        have SM := block4 wr (.string bN) (.int .i64 0) (.int .i64 1) (.int .i64 90000000) 67
        by_cases hr : 90000000 < a
        · have E : Hid (writeE a 0 = ([], 7)) := by unfold writeE; rw [if_pos rfl, if_pos (by omega)]; exact rfl
          go_wp2
          go_ret2
          exact ⟨by rw [E.out]; rfl, hB.trans ((alloc_below wr _).mono hB.size)⟩
        · have E : Hid (writeE a 0 = (sizeL a ++ [78], 0)) := by unfold writeE; rw [if_pos rfl, if_neg (by omega), if_neg (by omega)]; exact rfl
          have hW : Below wr.heap.size wr (wr.alloc (.cells #[.string bN, .int .i64 0, .int .i64 1, .int .i64 90000000] 67)) := alloc_below wr _
          have HC := Lib.hid (fun V hV => writeSize_any a (by omega) (by omega) V hV)
          have HT := Lib.hid ((HP.out.below hB).below hW)
          have q : IntKind.i64.wrap a = a := IntWalk.i64_in _ (by omega)
          have hlen := sizeL_le a (by omega) (by omega)
          have hlN : bN.size = 1 := rfl
          have hlS := str_no hlen hlN
          go_wp2_with fail
          go_region_with (first
            | (go_at_call 72; refine (HC.out _ (by first | exact HT.out | exact PowTab.drew HT.out)).mono ?_; rintro e w2 ⟨rfl, hB2⟩; have SM2 := keep_cell (by first | exact hB2 | exact undrew hB2) SM (by simp)))
          all_goals
            clear q
            go_wp2_with fail
            go_ret2
            have k1 := hB.trans (hW.mono hB.size)
            have k2 : Below (wr.alloc (.cells #[.string bN, .int .i64 0, .int .i64 1, .int .i64 90000000] 67)).heap.size (wr.alloc (.cells #[.string bN, .int .i64 0, .int .i64 1, .int .i64 90000000] 67)) w2 := by first | exact hB2 | exact undrew hB2
            exact ⟨by rw [E.out]; exact ret_text (append_bytes (sizeL a) [78]), k1.trans (k2.mono k1.size)⟩
      · go_wp2
        go_roundw
        case rel => exact ⟨1, by omega, rfl, hB.trans ((alloc_below wr _).mono hB.size), fun _ => hx, by omega⟩
        case measure => simp [intOf]
    · have N0 := Lib.hid n0
      have N1 := Lib.hid n1
      clear n0 n1
      by_cases hx : axis = 0
      · subst hx
        go_wp2_with fail
        go_roundw
        case rel => exact ⟨2, by omega, rfl, hB.trans ((alloc_below wr _).mono hB.size), fun _ => N0.out (by omega), by omega⟩
        case measure => simp [intOf]
      · go_wp2_with fail
        go_roundw
        case rel => exact ⟨2, by omega, rfl, hB.trans ((alloc_below wr _).mono hB.size), fun _ => N0.out (by omega), by omega⟩
        case measure => simp [intOf]
    · clear n1
      by_cases hx : axis = 1
      · subst hx
        have SM := block4 wr (.string bE) (.int .i64 1) (.int .i64 1) (.int .i64 180000000) 67
        by_cases hr : 180000000 < a
        · have E : Hid (writeE a 1 = ([], 7)) := by unfold writeE; rw [if_neg (by omega), if_pos rfl, if_pos (by omega)]; exact rfl
          go_wp2
          go_ret2
          exact ⟨by rw [E.out]; rfl, hB.trans ((alloc_below wr _).mono hB.size)⟩
        · have E : Hid (writeE a 1 = (sizeL a ++ [69], 0)) := by unfold writeE; rw [if_neg (by omega), if_pos rfl, if_neg (by omega), if_neg (by omega)]; exact rfl
          have hW : Below wr.heap.size wr (wr.alloc (.cells #[.string bE, .int .i64 1, .int .i64 1, .int .i64 180000000] 67)) := alloc_below wr _
          have HC := Lib.hid (fun V hV => writeSize_any a (by omega) (by omega) V hV)
          have HT := Lib.hid ((HP.out.below hB).below hW)
          have q : IntKind.i64.wrap a = a := IntWalk.i64_in _ (by omega)
          have hlen := sizeL_le a (by omega) (by omega)
          have hlN : bE.size = 1 := rfl
          have hlS := str_no hlen hlN
          go_wp2_with fail
          go_region_with (first
            | (go_at_call 72; refine (HC.out _ (by first | exact HT.out | exact PowTab.drew HT.out)).mono ?_; rintro e w2 ⟨rfl, hB2⟩; have SM2 := keep_cell (by first | exact hB2 | exact undrew hB2) SM (by simp)))
          all_goals
            clear q
            go_wp2_with fail
            go_ret2
            have k1 := hB.trans (hW.mono hB.size)
            have k2 : Below (wr.alloc (.cells #[.string bE, .int .i64 1, .int .i64 1, .int .i64 180000000] 67)).heap.size (wr.alloc (.cells #[.string bE, .int .i64 1, .int .i64 1, .int .i64 180000000] 67)) w2 := by first | exact hB2 | exact undrew hB2
            exact ⟨by rw [E.out]; exact ret_text (append_bytes (sizeL a) [69]), k1.trans (k2.mono k1.size)⟩
      · go_wp2
        go_roundw
        case rel => exact ⟨3, by omega, rfl, hB.trans ((alloc_below wr _).mono hB.size), fun _ => n0 (by omega), fun _ => hx⟩
        case measure => simp [intOf]
    · have N0 := Lib.hid n0
      have N1 := Lib.hid n1
      clear n0 n1
      by_cases hx : axis = 1
      · subst hx
        go_wp2_with fail
        go_roundw
        case rel => exact ⟨4, by omega, rfl, hB.trans ((alloc_below wr _).mono hB.size), fun _ => N0.out (by omega), fun _ => N1.out (by omega)⟩
        case measure => simp [intOf]
      · go_wp2_with fail
        go_roundw
        case rel => exact ⟨4, by omega, rfl, hB.trans ((alloc_below wr _).mono hB.size), fun _ => N0.out (by omega), fun _ => N1.out (by omega)⟩
        case measure => simp [intOf]
    · have E : Hid (writeE a axis = ([], 2)) := by unfold writeE; rw [if_neg (n0 (by omega)), if_neg (n1 (by omega))]; exact rfl
      clear n0 n1
      go_wp2
      go_ret2
      exact ⟨by rw [E.out]; rfl, hB⟩

set_option maxRecDepth 100000 in
set_option maxHeartbeats 4000000 in
theorem write_neg (a axis : Int) (h0 : a < 0) (h1 : -9223372036854775808 ≤ a) (w : World) (hm : MarkTab w) (hp : PowTab w) :
    Calls Tryd.prog 39 #[.int .i64 a, .int .i64 axis] w fun e w' => e = .returned (textV (writeE a axis).1 (writeE a axis).2) ∧ Below w.heap.size w w' := by
  obtain ⟨mt, mf, hblk⟩ := hm.block
  have hi := info72
  have i0 := idx0
  have i1 := idx1
  have i2 := idx2
  have i3 := idx3
  unfold mark0 at i0
  unfold mark1 at i1
  unfold mark2 at i2
  unfold mark3 at i3
  have HP := Lib.hid hp
  clear hp hm
  generalize marksL.toArray = M at *
  go_enter Tryd.func39, Tryd.ntmps39
  go_wp2_with (first | (refine wpList_load_row rfl 72 (.global 0) rfl 0 rfl mt M mf _ hblk Tryd.underlying72 rfl hi ?_) | fail)
  clear hblk hi
  go_loopw [12] (fun s wr => WRelN axis w s wr) (fun s _ => 4 - (intOf s).toNat)
  case atStart => exact ⟨0, by omega, rfl, Below.refl _ _, by omega, by omega⟩
  case round =>
    obtain ⟨k, hk, rfl, hB, n0, n1⟩ := hrel
    have hz := hB.size
    obtain rfl | rfl | rfl | rfl | rfl : k = 0 ∨ k = 1 ∨ k = 2 ∨ k = 3 ∨ k = 4 := by omega
    · have N0 := Lib.hid n0
      have N1 := Lib.hid n1
      clear n0 n1
      by_cases hx : axis = 0
      · subst hx
        go_wp2_with fail
        go_roundw
        case rel => exact ⟨1, by omega, rfl, hB.trans ((alloc_below wr _).mono hB.size), by omega, by omega⟩
        case measure => simp [intOf]
      · go_wp2_with fail
        go_roundw
        case rel => exact ⟨1, by omega, rfl, hB.trans ((alloc_below wr _).mono hB.size), by omega, by omega⟩
        case measure => simp [intOf]
    · clear n0 n1
      by_cases hx : axis = 0
      · subst hx
        have SM := block4 wr (.string bS) (.int .i64 0) (.int .i64 (-1)) (.int .i64 90000000) 67
        by_cases hr : a < -90000000
        · have E : Hid (writeE a 0 = ([], 7)) := by unfold writeE; rw [if_pos rfl, if_pos (by omega)]; exact rfl
          go_wp2
          go_ret2
          exact ⟨by rw [E.out]; rfl, hB.trans ((alloc_below wr _).mono hB.size)⟩
        · have E : Hid (writeE a 0 = (sizeL (-a) ++ [83], 0)) := by unfold writeE; rw [if_pos rfl, if_neg (by omega), if_pos (by omega)]; exact rfl
          have hW : Below wr.heap.size wr (wr.alloc (.cells #[.string bS, .int .i64 0, .int .i64 (-1), .int .i64 90000000] 67)) := alloc_below wr _
          have HC := Lib.hid (fun V hV => writeSize_any (-a) (by omega) (by omega) V hV)
          have HT := Lib.hid ((HP.out.below hB).below hW)
          have q : IntKind.i64.wrap (-a) = (-a) := IntWalk.i64_in _ (by omega)
          have hlen := sizeL_le (-a) (by omega) (by omega)
          have hlN : bS.size = 1 := rfl
          have hlS := str_no hlen hlN
          go_wp2_with fail
          go_region_with (first
            | (go_at_call 72; refine (HC.out _ (by first | exact HT.out | exact PowTab.drew HT.out)).mono ?_; rintro e w2 ⟨rfl, hB2⟩; have SM2 := keep_cell (by first | exact hB2 | exact undrew hB2) SM (by simp)))
          all_goals
            clear q
            go_wp2_with fail
            go_ret2
            have k1 := hB.trans (hW.mono hB.size)
            have k2 : Below (wr.alloc (.cells #[.string bS, .int .i64 0, .int .i64 (-1), .int .i64 90000000] 67)).heap.size (wr.alloc (.cells #[.string bS, .int .i64 0, .int .i64 (-1), .int .i64 90000000] 67)) w2 := by first | exact hB2 | exact undrew hB2
            exact ⟨by rw [E.out]; exact ret_text (append_bytes (sizeL (-a)) [83]), k1.trans (k2.mono k1.size)⟩
      · go_wp2
        go_roundw
        case rel => exact ⟨2, by omega, rfl, hB.trans ((alloc_below wr _).mono hB.size), fun _ => hx, by omega⟩
        case measure => simp [intOf]
    · have N0 := Lib.hid n0
      have N1 := Lib.hid n1
      clear n0 n1
      by_cases hx : axis = 1
      · subst hx
        go_wp2_with fail
        go_roundw
        case rel => exact ⟨3, by omega, rfl, hB.trans ((alloc_below wr _).mono hB.size), fun _ => N0.out (by omega), by omega⟩
        case measure => simp [intOf]
      · go_wp2_with fail
        go_roundw
        case rel => exact ⟨3, by omega, rfl, hB.trans ((alloc_below wr _).mono hB.size), fun _ => N0.out (by omega), by omega⟩
        case measure => simp [intOf]
    · clear n1
      by_cases hx : axis = 1
      · subst hx
        have SM := block4 wr (.string bW) (.int .i64 1) (.int .i64 (-1)) (.int .i64 180000000) 67
        by_cases hr : a < -180000000
        · have E : Hid (writeE a 1 = ([], 7)) := by unfold writeE; rw [if_neg (by omega), if_pos rfl, if_pos (by omega)]; exact rfl
          go_wp2
          go_ret2
          exact ⟨by rw [E.out]; rfl, hB.trans ((alloc_below wr _).mono hB.size)⟩
        · have E : Hid (writeE a 1 = (sizeL (-a) ++ [87], 0)) := by unfold writeE; rw [if_neg (by omega), if_pos rfl, if_neg (by omega), if_pos (by omega)]; exact rfl
          have hW : Below wr.heap.size wr (wr.alloc (.cells #[.string bW, .int .i64 1, .int .i64 (-1), .int .i64 180000000] 67)) := alloc_below wr _
          have HC := Lib.hid (fun V hV => writeSize_any (-a) (by omega) (by omega) V hV)
          have HT := Lib.hid ((HP.out.below hB).below hW)
          have q : IntKind.i64.wrap (-a) = (-a) := IntWalk.i64_in _ (by omega)
          have hlen := sizeL_le (-a) (by omega) (by omega)
          have hlN : bW.size = 1 := rfl
          have hlS := str_no hlen hlN
          go_wp2_with fail
          go_region_with (first
            | (go_at_call 72; refine (HC.out _ (by first | exact HT.out | exact PowTab.drew HT.out)).mono ?_; rintro e w2 ⟨rfl, hB2⟩; have SM2 := keep_cell (by first | exact hB2 | exact undrew hB2) SM (by simp)))
          all_goals
            clear q
            go_wp2_with fail
            go_ret2
            have k1 := hB.trans (hW.mono hB.size)
            have k2 : Below (wr.alloc (.cells #[.string bW, .int .i64 1, .int .i64 (-1), .int .i64 180000000] 67)).heap.size (wr.alloc (.cells #[.string bW, .int .i64 1, .int .i64 (-1), .int .i64 180000000] 67)) w2 := by first | exact hB2 | exact undrew hB2
            exact ⟨by rw [E.out]; exact ret_text (append_bytes (sizeL (-a)) [87]), k1.trans (k2.mono k1.size)⟩
      · go_wp2
        go_roundw
        case rel => exact ⟨4, by omega, rfl, hB.trans ((alloc_below wr _).mono hB.size), fun _ => n0 (by omega), fun _ => hx⟩
        case measure => simp [intOf]
    · have E : Hid (writeE a axis = ([], 2)) := by unfold writeE; rw [if_neg (n0 (by omega)), if_neg (n1 (by omega))]; exact rfl
      clear n0 n1
      go_wp2
      go_ret2
      exact ⟨by rw [E.out]; rfl, hB⟩

theorem write_any (a axis : Int) (h0 : -9223372036854775808 ≤ a) (h1 : a ≤ 9223372036854775807) (w : World) (hm : MarkTab w) (hp : PowTab w) :
    Calls Tryd.prog 39 #[.int .i64 a, .int .i64 axis] w fun e w' => e = .returned (textV (writeE a axis).1 (writeE a axis).2) ∧ Below w.heap.size w w' := by
  rcases Int.lt_or_le a 0 with h | h
  · exact write_neg a axis h h0 w hm hp
  · exact write_pos a axis h h1 w hm hp
end Go.Proofs.YtnjedigjabijcaaDoor
