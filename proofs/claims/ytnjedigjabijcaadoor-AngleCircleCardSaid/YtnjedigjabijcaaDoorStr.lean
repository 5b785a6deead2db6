import Derived.Test.YtnjedigjabijcaaDoorArc2
import Derived.Test.YtnjedigjabijcaaDoorShelfb
import Derived.WalkSpells
import Derived.Laws.Rows
import Derived.Lib.ItoaLen
namespace Go.Proofs.YtnjedigjabijcaaDoor
open Go Go.RowKit Go.Sort

/-- The table of powers, as the library's text lays it. -/
def PowTab (V : World) : Prop := Lib.TabIs Tryd.prog V "internal/strconv.uint64pow10" .u64 Lib.pow10Tab
theorem gPow : Tryd.prog.globalNamed "internal/strconv.uint64pow10" = some 3 := by kernel_rfl
theorem PowTab.below {V V' : World} (h : PowTab V) (hb : Below V.heap.size V V') : PowTab V' := by
  unfold PowTab Lib.TabIs World.var? at h ⊢
  rw [gPow] at h ⊢
  simp only [Option.bind_some] at h ⊢
  have hlt : 3 < V.heap.size := by
    rcases Nat.lt_or_ge 3 V.heap.size with h' | h'
    · exact h'
    · rw [Array.getElem?_eq_none h'] at h; cases h
  rw [hb.block 3 hlt]
  exact h

theorem grow_below (w : World) (k : Nat) (os : Array Obj) : Below w.heap.size w (grow (w.drewN k) os) :=
  ⟨rfl, rfl, rfl, by simp [grow], fun i hi => by
    show ((w.drewN k).heap ++ os)[i]? = _
    rw [Array.getElem?_append_left (by show i < w.heap.size; omega)]
    rfl⟩

theorem itoa_any (n : Int) (h0 : -9223372036854775808 ≤ n) (h1 : n ≤ 9223372036854775807) (w : World) (hp : PowTab w) :
    Calls Tryd.prog 91 #[.int .i64 n] w fun e w' => e = .returned (.string ⟨(Lib.itoa n).toArray⟩) ∧ Below w.heap.size w w' :=
  (Tryd.strconv_Itoa n h0 h1 w hp).mono fun _ _ ⟨he, k, os, hw⟩ => ⟨he, by rw [hw]; exact grow_below w k os⟩

/-- The string of so many millionths of a degree. -/
def sizeL (n : Int) : List UInt8 :=
  if n % 1000000 = 0 then Lib.itoa (n / 1000000) else Lib.itoa (n / 1000000) ++ [46] ++ Lib.trimRightB ((Lib.itoa (1000000 + n % 1000000)).drop 1) 48

theorem decDigits_pos (u : Nat) : 1 ≤ (Lib.decDigits u).length := by
  unfold Lib.decDigits
  split
  · simp
  · simp
theorem itoa_pos (n : Int) : 1 ≤ (Lib.itoa n).length := by
  unfold Lib.itoa
  split
  · simp
  · exact decDigits_pos _

theorem append_bytes (l m : List UInt8) : (⟨l.toArray⟩ : ByteArray) ++ ⟨m.toArray⟩ = ⟨(l ++ m).toArray⟩ := by
  apply ByteArray.ext
  rw [ByteArray.data_append]
  simp
theorem cut_one (m : List UInt8) : (⟨m.toArray⟩ : ByteArray).extract 1 m.length = ⟨(m.drop 1).toArray⟩ := by
  apply ByteArray.ext
  rw [ByteArray.data_extract]
  simp
  rw [List.take_of_length_le (by simp)]
theorem bytes_size (l : List UInt8) : (⟨l.toArray⟩ : ByteArray).size = l.length := rfl
theorem trimRightB_le (l : List UInt8) (c : UInt8) : (Lib.trimRightB l c).length ≤ l.length := by
  unfold Lib.trimRightB
  rw [List.length_reverse]
  exact Nat.le_trans (List.dropWhile_sublist _).length_le (by simp)
theorem ret_string {a b : ByteArray} (h : a = b) : Ending.returned (.string a) = .returned (.string b) := by rw [h]

set_option maxHeartbeats 1000000 in
theorem writeSize_any (n : Int) (h0 : 0 ≤ n) (h1 : n ≤ 180000000) (w : World) (hp : PowTab w) :
    Calls Tryd.prog 72 #[.int .i64 n] w fun e w' => e = .returned (.string ⟨(sizeL n).toArray⟩) ∧ Below w.heap.size w w' := by
  have HP := Lib.hid hp
  clear hp
  by_cases hz : n % 1000000 = 0
  · have E : Hid (sizeL n = Lib.itoa (n / 1000000)) := by unfold sizeL; rw [if_pos hz]; exact rfl
    have hb : (n % 1000000 == 0) = true := by simpa using hz
    clear hz
    go_enter Tryd.func72, Tryd.ntmps72
    go_wp2_with fail
    refine (itoa_any _ (by omega) (by omega) _ HP.out).mono ?_
    generalize Lib.itoa (n / 1000000) = l at *
    rintro e w1 ⟨rfl, hB1⟩
    go_wp2
    go_ret
    exact ⟨by rw [E.out]; rfl, hB1⟩
  · have E : Hid (sizeL n = Lib.itoa (n / 1000000) ++ [46] ++ Lib.trimRightB ((Lib.itoa (1000000 + n % 1000000)).drop 1) 48) := by unfold sizeL; rw [if_neg hz]; exact rfl
    have hb : (n % 1000000 == 0) = false := by simpa using hz
    have hlen := Lib.itoa_length_le (1000000 + n % 1000000) (by omega) (by omega)
    have hlen1 := itoa_pos (1000000 + n % 1000000)
    have hlen2 := Lib.itoa_length_le (n / 1000000) (by omega) (by omega)
    clear hz
    go_enter Tryd.func72, Tryd.ntmps72
    go_wp2_with fail
    refine (itoa_any _ (by omega) (by omega) _ HP.out).mono ?_
    generalize Lib.itoa (n / 1000000) = l at *
    rintro e w1 ⟨rfl, hB1⟩
    go_wp2_with fail
    refine (itoa_any _ (by omega) (by omega) _ (HP.out.below hB1)).mono ?_
    generalize Lib.itoa (1000000 + n % 1000000) = m at *
    rintro e w2 ⟨rfl, hB2⟩
    go_wp2_with fail
    rw [cut_one m]
    refine (Tryd.strings_TrimRight_one ⟨(m.drop 1).toArray⟩ 48 (by decide) _ (by rw [bytes_size, List.length_drop]; omega)).mono ?_
    rintro e w3 ⟨rfl, rfl⟩
    have hlen3 : (Lib.trimRightB (m.drop 1) 48).length ≤ 21 := by
      have := trimRightB_le (m.drop 1) 48
      rw [List.length_drop] at this; omega
    rw [show (Lib.trimRightB ({ data := (m.drop 1).toArray } : ByteArray).data.toList 48) = Lib.trimRightB (m.drop 1) 48 from rfl]
    generalize Lib.trimRightB (m.drop 1) 48 = r at *
    have HB := Lib.hid (hB1.trans (hB2.mono hB1.size))
    clear hB1 hB2
    go_wp2
    go_ret
    exact ⟨by rw [E.out]; exact ret_string (by simp [append_bytes]), HB.out⟩
end Go.Proofs.YtnjedigjabijcaaDoor
