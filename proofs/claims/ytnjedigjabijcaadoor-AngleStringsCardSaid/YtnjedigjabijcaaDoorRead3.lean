import Derived.Test.YtnjedigjabijcaaDoorRead2
import Derived.Test.YtnjedigjabijcaaDoorLaid
namespace Go.Proofs.YtnjedigjabijcaaDoor
open Go Go.RowKit

/-- A block of four cells, which may be written. -/
structure Slot4 (V : World) (b : Nat) (x y z u : Value) : Prop where
  lies : b < V.heap.size
  cell0 : V.cell? ⟨b, 0, none⟩ = some x
  cell1 : V.cell? ⟨b, 1, none⟩ = some y
  cell2 : V.cell? ⟨b, 2, none⟩ = some z
  cell3 : V.cell? ⟨b, 3, none⟩ = some u
  free0 : V.frozen? ⟨b, 0, none⟩ = false
  free1 : V.frozen? ⟨b, 1, none⟩ = false
  free2 : V.frozen? ⟨b, 2, none⟩ = false
  free3 : V.frozen? ⟨b, 3, none⟩ = false
theorem Slot4.new (V : World) (x y z u : Value) (T : TypeId) : Slot4 (V.alloc (.cells #[x, y, z, u] T)) V.heap.size x y z u := by
  refine ⟨by simp, ?_, ?_, ?_, ?_, ?_, ?_, ?_, ?_⟩ <;> simp [go_sem]
theorem Slot4.next {V V' : World} {b : Nat} {x y z u : Value} (h : Slot4 V b x y z u) (hB : Below V.heap.size V V') : Slot4 V' b x y z u :=
  ⟨Nat.lt_of_lt_of_le h.lies hB.size, by rw [hB.cell h.lies, h.cell0], by rw [hB.cell h.lies, h.cell1], by rw [hB.cell h.lies, h.cell2], by rw [hB.cell h.lies, h.cell3],
    by rw [hB.frozen h.lies, h.free0], by rw [hB.frozen h.lies, h.free1], by rw [hB.frozen h.lies, h.free2], by rw [hB.frozen h.lies, h.free3]⟩
theorem Slot4.all {V : World} {b : Nat} {x y z u : Value} (h : Slot4 V b x y z u) (x' y' z' u' : Value) : Slot4 ((((V.setCell ⟨b, 0, none⟩ x').setCell ⟨b, 1, none⟩ y').setCell ⟨b, 2, none⟩ z').setCell ⟨b, 3, none⟩ u') b x' y' z' u' := by
  have c1 : (V.setCell ⟨b, 0, none⟩ x').cell? ⟨b, 1, none⟩ = some y := by rw [World.cell?_setCell_other (h := by simp)]; exact h.cell1
  have c2 : ((V.setCell ⟨b, 0, none⟩ x').setCell ⟨b, 1, none⟩ y').cell? ⟨b, 2, none⟩ = some z := by rw [World.cell?_setCell_other (h := by simp), World.cell?_setCell_other (h := by simp)]; exact h.cell2
  have c3 : (((V.setCell ⟨b, 0, none⟩ x').setCell ⟨b, 1, none⟩ y').setCell ⟨b, 2, none⟩ z').cell? ⟨b, 3, none⟩ = some u := by rw [World.cell?_setCell_other (h := by simp), World.cell?_setCell_other (h := by simp), World.cell?_setCell_other (h := by simp)]; exact h.cell3
  refine ⟨by simpa using h.lies, ?_, ?_, ?_, ?_, by simp only [World.frozen?_setCell]; exact h.free0, by simp only [World.frozen?_setCell]; exact h.free1, by simp only [World.frozen?_setCell]; exact h.free2, by simp only [World.frozen?_setCell]; exact h.free3⟩
  · rw [World.cell?_setCell_other (h := by simp), World.cell?_setCell_other (h := by simp), World.cell?_setCell_other (h := by simp)]; exact World.cell?_setCell_same _ _ _ h.cell0
  · rw [World.cell?_setCell_other (h := by simp), World.cell?_setCell_other (h := by simp)]; exact World.cell?_setCell_same _ _ _ c1
  · rw [World.cell?_setCell_other (h := by simp)]; exact World.cell?_setCell_same _ _ _ c2
  · exact World.cell?_setCell_same _ _ _ c3
theorem below_four {w V : World} (h : Below w.heap.size w V) {b : Nat} (hb : w.heap.size ≤ b) (x y z u : Value) : Below w.heap.size w ((((V.setCell ⟨b, 0, none⟩ x).setCell ⟨b, 1, none⟩ y).setCell ⟨b, 2, none⟩ z).setCell ⟨b, 3, none⟩ u) :=
  (((h.setCell hb x).setCell hb y).setCell hb z).setCell hb u

def frontB (l : List UInt8) : Value := .string ⟨(l.take (l.length - 1)).toArray⟩
/-- What is found of a letter at the end. -/
def markV (l : List UInt8) : Value :=
  if Lib.hasSuffix l [78] then .tuple #[mark0, frontB l, .bool true] else if Lib.hasSuffix l [83] then .tuple #[mark1, frontB l, .bool true] else if Lib.hasSuffix l [69] then .tuple #[mark2, frontB l, .bool true]
  else if Lib.hasSuffix l [87] then .tuple #[mark3, frontB l, .bool true] else .tuple #[.agg #[.string ⟨#[]⟩, .int .i64 0, .int .i64 0, .int .i64 0], .string ⟨#[]⟩, .bool false]
def MRel (l : List UInt8) (w : World) (s : Value) (wr : World) : Prop :=
  ∃ k : Nat, k ≤ 4 ∧ s = .int .i64 k ∧ Below w.heap.size w wr ∧ (∃ x y z u, Slot4 wr w.heap.size x y z u) ∧ (1 ≤ k → Lib.hasSuffix l [78] = false) ∧ (2 ≤ k → Lib.hasSuffix l [83] = false) ∧ (3 ≤ k → Lib.hasSuffix l [69] = false) ∧ (4 ≤ k → Lib.hasSuffix l [87] = false)
theorem cut_yes (l : List UInt8) (c : UInt8) (h : Lib.hasSuffix l [c] = true) : Lib.trimSuffix l [c] = l.take (l.length - 1) := by unfold Lib.trimSuffix; rw [if_pos h]; rfl
theorem cutS (l : List UInt8) (b : ByteArray) (c : UInt8) (hb : b.data.toList = [c]) (hl : l.length ≤ 1000) (w : World) :
    Calls Tryd.prog 86 #[.string ⟨l.toArray⟩, .string b] w fun e w' => e = .returned (.tuple #[.string ⟨(Lib.trimSuffix l [c]).toArray⟩, .bool (Lib.hasSuffix l [c])]) ∧ w = w' := by
  have h := Tryd.strings_CutSuffix ⟨l.toArray⟩ b w (by show l.length ≤ _; omega)
  rw [hb] at h
  exact h.mono fun e w' ⟨h1, h2⟩ => ⟨h1, h2.symm⟩

set_option maxRecDepth 100000 in
set_option maxHeartbeats 4000000 in
theorem splitMark_any (l : List UInt8) (hl : l.length ≤ 20) (w : World) (hm : MarkTab w) :
    Calls Tryd.prog 67 #[.string ⟨l.toArray⟩] w fun e w' => e = .returned (markV l) ∧ Below w.heap.size w w' := by
  obtain ⟨mt, mf, hblk⟩ := hm.block
  have hi := info72
  have i0 := idx0
  have i1 := idx1
  have i2 := idx2
  have i3 := idx3
  unfold mark0 at i0
  unfold mark1 at i1
  unfold mark2 at i2
  unfold mark3 at i3
  have S0 := Slot4.new w (.string ⟨#[]⟩) (.int .i64 0) (.int .i64 0) (.int .i64 0) 67
  have k0 := alloc_below w (.cells #[.string ⟨#[]⟩, .int .i64 0, .int .i64 0, .int .i64 0] 67)
  have hblk' : (w.alloc (.cells #[.string ⟨#[]⟩, .int .i64 0, .int .i64 0, .int .i64 0] 67)).heap[0]? = some (.cells marksL.toArray mt mf) := by rw [k0.block 0 hm.lt]; exact hblk
  clear hm hblk
  generalize marksL.toArray = M at *
  go_enter Tryd.func67, Tryd.ntmps67
  go_wp2_with (first | (refine wpList_load_row rfl 72 (.global 0) rfl 0 rfl mt M mf _ hblk' Tryd.underlying72 rfl hi ?_) | fail)
  clear hblk' hi
  go_loopw [6] (fun s wr => MRel l w s wr) (fun s _ => 4 - (intOf s).toNat)
  case atStart => exact ⟨0, by omega, rfl, k0, ⟨_, _, _, _, S0⟩, by omega, by omega, by omega, by omega⟩
  case round =>
    obtain ⟨k, hk, rfl, hB, ⟨x, y, z, u, S⟩, n0, n1, n2, n3⟩ := hrel
    obtain rfl | rfl | rfl | rfl | rfl : k = 0 ∨ k = 1 ∨ k = 2 ∨ k = 3 ∨ k = 4 := by omega
    · have SA := Lib.hid (S.all (.string bN) (.int .i64 0) (.int .i64 1) (.int .i64 90000000))
      have KB := Lib.hid (below_four hB (Nat.le_refl _) (.string bN) (.int .i64 0) (.int .i64 1) (.int .i64 90000000))
      have SB := Lib.hid (SA.out.all (.string bN) (.int .i64 0) (.int .i64 1) (.int .i64 90000000))
      have KC := Lib.hid (below_four KB.out (Nat.le_refl _) (.string bN) (.int .i64 0) (.int .i64 1) (.int .i64 90000000))
      have N := Lib.hid (And.intro n0 (And.intro n1 (And.intro n2 n3)))
      obtain ⟨_, s0, s1, s2, s3, t0, t1, t2, t3⟩ := S
      clear n0 n1 n2 n3 hB
      cases hs : Lib.hasSuffix l [78]
      · have HS := Lib.hid hs
        clear hs
        go_wp2_with fail
        refine (cutS l bN 78 rfl (by omega) _).mono ?_
        rw [HS.out]
        rintro e w2 ⟨rfl, rfl⟩
        obtain ⟨_, p0, p1, p2, p3, q0, q1, q2, q3⟩ := SA.out
        go_wp2_with fail
        go_roundw
        case rel =>
          obtain ⟨m0, m1, m2, m3⟩ := N.out
          exact ⟨0 + 1, by omega, rfl, KB.out, ⟨_, _, _, _, SA.out⟩, fun _ => HS.out, by omega, by omega, by omega⟩
        case measure => simp [intOf]
      · have HS := Lib.hid hs
        have E : Hid (markV l = .tuple #[mark0, frontB l, .bool true]) := Lib.hid (by
          obtain ⟨m0, m1, m2, m3⟩ := N.out
          unfold markV
          rw [HS.out]; rfl)
        have F := Lib.hid (cut_yes l 78 hs)
        clear hs
        go_wp2_with fail
        refine (cutS l bN 78 rfl (by omega) _).mono ?_
        rw [HS.out, F.out]
        rintro e w2 ⟨rfl, rfl⟩
        obtain ⟨_, p0, p1, p2, p3, q0, q1, q2, q3⟩ := SA.out
        clear s0 s1 s2 s3 t0 t1 t2 t3
        go_wp2_with fail
        refine bodyPost_ret (v := .tuple #[mark0, frontB l, .bool true]) (by simp [results, Tryd.results67, go_sem, SB.out.cell0, SB.out.cell1, SB.out.cell2, SB.out.cell3]; exact ⟨rfl, rfl⟩) rfl ⟨by rw [E.out], KC.out⟩
    · have SA := Lib.hid (S.all (.string bS) (.int .i64 0) (.int .i64 (-1)) (.int .i64 90000000))
      have KB := Lib.hid (below_four hB (Nat.le_refl _) (.string bS) (.int .i64 0) (.int .i64 (-1)) (.int .i64 90000000))
      have SB := Lib.hid (SA.out.all (.string bS) (.int .i64 0) (.int .i64 (-1)) (.int .i64 90000000))
      have KC := Lib.hid (below_four KB.out (Nat.le_refl _) (.string bS) (.int .i64 0) (.int .i64 (-1)) (.int .i64 90000000))
      have N := Lib.hid (And.intro n0 (And.intro n1 (And.intro n2 n3)))
      obtain ⟨_, s0, s1, s2, s3, t0, t1, t2, t3⟩ := S
      clear n0 n1 n2 n3 hB
      cases hs : Lib.hasSuffix l [83]
      · have HS := Lib.hid hs
        clear hs
        go_wp2_with fail
        refine (cutS l bS 83 rfl (by omega) _).mono ?_
        rw [HS.out]
        rintro e w2 ⟨rfl, rfl⟩
        obtain ⟨_, p0, p1, p2, p3, q0, q1, q2, q3⟩ := SA.out
        go_wp2_with fail
        go_roundw
        case rel =>
          obtain ⟨m0, m1, m2, m3⟩ := N.out
          exact ⟨1 + 1, by omega, rfl, KB.out, ⟨_, _, _, _, SA.out⟩, fun _ => m0 (by omega), fun _ => HS.out, by omega, by omega⟩
        case measure => simp [intOf]
      · have HS := Lib.hid hs
        have E : Hid (markV l = .tuple #[mark1, frontB l, .bool true]) := Lib.hid (by
          obtain ⟨m0, m1, m2, m3⟩ := N.out
          unfold markV
          rw [m0 (by omega), HS.out]; rfl)
        have F := Lib.hid (cut_yes l 83 hs)
        clear hs
        go_wp2_with fail
        refine (cutS l bS 83 rfl (by omega) _).mono ?_
        rw [HS.out, F.out]
        rintro e w2 ⟨rfl, rfl⟩
        obtain ⟨_, p0, p1, p2, p3, q0, q1, q2, q3⟩ := SA.out
        clear s0 s1 s2 s3 t0 t1 t2 t3
        go_wp2_with fail
        refine bodyPost_ret (v := .tuple #[mark1, frontB l, .bool true]) (by simp [results, Tryd.results67, go_sem, SB.out.cell0, SB.out.cell1, SB.out.cell2, SB.out.cell3]; exact ⟨rfl, rfl⟩) rfl ⟨by rw [E.out], KC.out⟩
    · have SA := Lib.hid (S.all (.string bE) (.int .i64 1) (.int .i64 1) (.int .i64 180000000))
      have KB := Lib.hid (below_four hB (Nat.le_refl _) (.string bE) (.int .i64 1) (.int .i64 1) (.int .i64 180000000))
      have SB := Lib.hid (SA.out.all (.string bE) (.int .i64 1) (.int .i64 1) (.int .i64 180000000))
      have KC := Lib.hid (below_four KB.out (Nat.le_refl _) (.string bE) (.int .i64 1) (.int .i64 1) (.int .i64 180000000))
      have N := Lib.hid (And.intro n0 (And.intro n1 (And.intro n2 n3)))
      obtain ⟨_, s0, s1, s2, s3, t0, t1, t2, t3⟩ := S
      clear n0 n1 n2 n3 hB
      cases hs : Lib.hasSuffix l [69]
      · have HS := Lib.hid hs
        clear hs
        go_wp2_with fail
        refine (cutS l bE 69 rfl (by omega) _).mono ?_
        rw [HS.out]
        rintro e w2 ⟨rfl, rfl⟩
        obtain ⟨_, p0, p1, p2, p3, q0, q1, q2, q3⟩ := SA.out
        go_wp2_with fail
        go_roundw
        case rel =>
          obtain ⟨m0, m1, m2, m3⟩ := N.out
          exact ⟨2 + 1, by omega, rfl, KB.out, ⟨_, _, _, _, SA.out⟩, fun _ => m0 (by omega), fun _ => m1 (by omega), fun _ => HS.out, by omega⟩
        case measure => simp [intOf]
      · have HS := Lib.hid hs
        have E : Hid (markV l = .tuple #[mark2, frontB l, .bool true]) := Lib.hid (by
          obtain ⟨m0, m1, m2, m3⟩ := N.out
          unfold markV
          rw [m0 (by omega), m1 (by omega), HS.out]; rfl)
        have F := Lib.hid (cut_yes l 69 hs)
        clear hs
        go_wp2_with fail
        refine (cutS l bE 69 rfl (by omega) _).mono ?_
        rw [HS.out, F.out]
        rintro e w2 ⟨rfl, rfl⟩
        obtain ⟨_, p0, p1, p2, p3, q0, q1, q2, q3⟩ := SA.out
        clear s0 s1 s2 s3 t0 t1 t2 t3
        go_wp2_with fail
        refine bodyPost_ret (v := .tuple #[mark2, frontB l, .bool true]) (by simp [results, Tryd.results67, go_sem, SB.out.cell0, SB.out.cell1, SB.out.cell2, SB.out.cell3]; exact ⟨rfl, rfl⟩) rfl ⟨by rw [E.out], KC.out⟩
    · have SA := Lib.hid (S.all (.string bW) (.int .i64 1) (.int .i64 (-1)) (.int .i64 180000000))
      have KB := Lib.hid (below_four hB (Nat.le_refl _) (.string bW) (.int .i64 1) (.int .i64 (-1)) (.int .i64 180000000))
      have SB := Lib.hid (SA.out.all (.string bW) (.int .i64 1) (.int .i64 (-1)) (.int .i64 180000000))
      have KC := Lib.hid (below_four KB.out (Nat.le_refl _) (.string bW) (.int .i64 1) (.int .i64 (-1)) (.int .i64 180000000))
      have N := Lib.hid (And.intro n0 (And.intro n1 (And.intro n2 n3)))
      obtain ⟨_, s0, s1, s2, s3, t0, t1, t2, t3⟩ := S
      clear n0 n1 n2 n3 hB
      cases hs : Lib.hasSuffix l [87]
      · have HS := Lib.hid hs
        clear hs
        go_wp2_with fail
        refine (cutS l bW 87 rfl (by omega) _).mono ?_
        rw [HS.out]
        rintro e w2 ⟨rfl, rfl⟩
        obtain ⟨_, p0, p1, p2, p3, q0, q1, q2, q3⟩ := SA.out
        go_wp2_with fail
        go_roundw
        case rel =>
          obtain ⟨m0, m1, m2, m3⟩ := N.out
          exact ⟨3 + 1, by omega, rfl, KB.out, ⟨_, _, _, _, SA.out⟩, fun _ => m0 (by omega), fun _ => m1 (by omega), fun _ => m2 (by omega), fun _ => HS.out⟩
        case measure => simp [intOf]
      · have HS := Lib.hid hs
        have E : Hid (markV l = .tuple #[mark3, frontB l, .bool true]) := Lib.hid (by
          obtain ⟨m0, m1, m2, m3⟩ := N.out
          unfold markV
          rw [m0 (by omega), m1 (by omega), m2 (by omega), HS.out]; rfl)
        have F := Lib.hid (cut_yes l 87 hs)
        clear hs
        go_wp2_with fail
        refine (cutS l bW 87 rfl (by omega) _).mono ?_
        rw [HS.out, F.out]
        rintro e w2 ⟨rfl, rfl⟩
        obtain ⟨_, p0, p1, p2, p3, q0, q1, q2, q3⟩ := SA.out
        clear s0 s1 s2 s3 t0 t1 t2 t3
        go_wp2_with fail
        refine bodyPost_ret (v := .tuple #[mark3, frontB l, .bool true]) (by simp [results, Tryd.results67, go_sem, SB.out.cell0, SB.out.cell1, SB.out.cell2, SB.out.cell3]; exact ⟨rfl, rfl⟩) rfl ⟨by rw [E.out], KC.out⟩
    · have E : Hid (markV l = .tuple #[.agg #[.string ⟨#[]⟩, .int .i64 0, .int .i64 0, .int .i64 0], .string ⟨#[]⟩, .bool false]) := Lib.hid (by
        unfold markV
        rw [n0 (by omega), n1 (by omega), n2 (by omega), n3 (by omega)]; rfl)
      have SA := Lib.hid (S.all (.string ⟨#[]⟩) (.int .i64 0) (.int .i64 0) (.int .i64 0))
      have KB := Lib.hid (below_four hB (Nat.le_refl _) (.string ⟨#[]⟩) (.int .i64 0) (.int .i64 0) (.int .i64 0))
      obtain ⟨_, s0, s1, s2, s3, t0, t1, t2, t3⟩ := S
      clear n0 n1 n2 n3 hB
      go_wp2_with fail
      refine bodyPost_ret (v := .tuple #[.agg #[.string ⟨#[]⟩, .int .i64 0, .int .i64 0, .int .i64 0], .string ⟨#[]⟩, .bool false]) (by simp [results, Tryd.results67, go_sem, SA.out.cell0, SA.out.cell1, SA.out.cell2, SA.out.cell3]; try exact rfl) rfl ⟨by rw [E.out], KB.out⟩
end Go.Proofs.YtnjedigjabijcaaDoor
