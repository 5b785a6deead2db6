import Derived.Test.YtnjedigjabijcaaDoorBackMath
import Derived.Test.YtnjedigjabijcaaDoorArc2
import Derived.Test.YtnjedigjabijcaaDoorSinRef
import Derived.Deep.RegionHeld3
import Derived.Test.YtnjedigjabijcaaDoorBack
import Derived.Deep.QuietTactic
import Derived.BigQuiet
import Derived.Deep.RegionLaw
import Derived.Test.YtnjedigjabijcaaDoorSine8
import Derived.Test.YtnjedigjabijcaaDoorRoots
import Derived.Test.YtnjedigjabijcaaDoorEncl
namespace Go.Proofs.YtnjedigjabijcaaDoor

/-- The first angle whose sine is not below the negative value, from the first one of the value. -/
theorem arc_other (v : Int) (h0 : -100000000 ≤ v) (h1 : v ≤ 100000000) : (arcN (-v) : Int) = 180000000 - (arcN v : Int) + (if (upE (arcN v)).2 ≤ v then 0 else 1) := by
  obtain ⟨a1, a2⟩ := arcN_spec v h1
  obtain ⟨b1, b2⟩ := arcN_spec (-v) (by omega)
  have l1 := arcN_le v
  have l2 := arcN_le (-v)
  have wd := arc_width v h0 h1
  have lower : 180000000 ≤ arcN v + arcN (-v) := by
    apply Nat.le_of_not_lt
    intro hlt
    have e := upE_odd (arcN (-v) : Int) (by omega) (by omega)
    have r := upE_rise (arcN v) (180000000 - (arcN (-v) : Int)) (by omega) (by omega) (by omega)
    have top := sineE_top (180000000 - (arcN (-v) : Int) - 90000000)
    have w1 : (upE (180000000 - (arcN (-v) : Int))).1 ≤ (upE (180000000 - (arcN (-v) : Int))).2 := top.2.1
    have e2 : (upE (180000000 - (arcN (-v) : Int))).2 = -(upE (arcN (-v))).1 := by rw [e]; rfl
    have p := point_strict (180000000 - (arcN (-v) : Int)) (arcN v) (by omega) (by omega) (by omega) (by omega)
    omega
  have e := upE_odd (arcN v : Int) (by omega) (by omega)
  have e1 : (upE (180000000 - (arcN v : Int))).1 = -(upE (arcN v)).2 := by rw [e]; rfl
  by_cases c : (upE (arcN v)).2 ≤ v
  · rw [if_pos c]
    have : arcN (-v) ≤ 180000000 - arcN v := by
      apply Nat.le_of_not_lt
      intro hlt
      have x := b1 (180000000 - arcN v) hlt
      rw [show ((180000000 - arcN v : Nat) : Int) = 180000000 - (arcN v : Int) by omega] at x
      omega
    omega
  · rw [if_neg c]
    have : arcN (-v) ≠ 180000000 - arcN v := by
      intro he
      rw [he, show ((180000000 - arcN v : Nat) : Int) = 180000000 - (arcN v : Int) by omega] at b2
      omega
    omega
/-- The last angle whose cosine is not below a value. -/
theorem arc_last (v : Int) (low : Int) (h1 : v ≤ 100000000) (l0 : 0 ≤ low) (l1 : low ≤ 180000000) (hl : v ≤ (sineE (low + 90000000)).1) (hh : low < 180000000 → (sineE (low + 1 + 90000000)).1 < v) : low = 180000000 - (arcN v : Int) := by
  obtain ⟨a1, a2⟩ := arcN_spec v h1
  have la := arcN_le v
  rw [cosE_up low l0 l1] at hl
  have x : (arcN v : Int) ≤ 180000000 - low := by
    apply Int.not_lt.1
    intro hlt
    have := a1 (180000000 - low).toNat (by omega)
    rw [show (((180000000 - low).toNat : Nat) : Int) = 180000000 - low by omega] at this
    omega
  rcases Int.lt_or_le low 180000000 with c | c
  · have hh := hh c
    rw [cosE_up (low + 1) (by omega) (by omega)] at hh
    have y : 180000000 - (low + 1) < (arcN v : Int) := by
      apply Int.not_le.1
      intro hle
      have := (upE_rise (arcN v) (180000000 - (low + 1)) (by omega) hle (by omega)).1
      omega
    omega
  · omega
/-- What the reference returns for one value. -/
def rarcE (v : Int) : Int × Int := (180000000 - (arcN v : Int), 180000000 - (arcN v : Int) + (if (upE (arcN v)).2 ≤ v then 0 else 1))
theorem arccos_eq (lo hi : Int) (h : inB lo hi (-100000000) 100000000 = true) : arccosE lo hi = (((rarcE hi).1, (rarcE lo).2), 0) := by
  obtain ⟨i1, i2, i3⟩ := inB_yes h
  have o := arc_other lo i1 (by omega)
  unfold arccosE
  rw [arcsinE_ok lo hi h, if_pos rfl]
  unfold rarcE
  simp only
  rw [← o]
  congr 2
  · omega
  · omega
theorem arccos_no (lo hi : Int) (h : inB lo hi (-100000000) 100000000 = false) : arccosE lo hi = ((0, 0), 7) := by
  unfold arccosE
  rw [arcsinE_no lo hi h, if_neg (by decide)]
end Go.Proofs.YtnjedigjabijcaaDoor

namespace Go.Proofs.YtnjedigjabijcaaDoor
open Go Go.RowKit

def RArcRel (v : Int) (w : World) (lo hi : Value) (wr : World) : Prop :=
  ∃ l h : Int, lo = .int .i64 l ∧ hi = .int .i64 h ∧ 0 ≤ l ∧ l < h ∧ h ≤ 180000001 ∧ v ≤ (sineE (l + 90000000)).1 ∧ (h ≤ 180000000 → (sineE (h + 90000000)).1 < v) ∧ Below w.heap.size w wr ∧ Slot2 wr w.heap.size (.int .i64 0) (.int .i64 0)
set_option maxRecDepth 100000 in
set_option maxHeartbeats 4000000 in
theorem rarccos_any (v : Int) (_h0 : -100000000 ≤ v) (h1 : v ≤ 100000000) (w : World) :
    Calls Tryd.prog 52 #[.int .i64 v] w fun e w' => e = .returned (.agg #[.int .i64 (rarcE v).1, .int .i64 (rarcE v).2]) ∧ Below w.heap.size w w' := by
  have SR := Lib.hid (Slot2.new w (.int .i64 0) (.int .i64 0) 23)
  have KB := Lib.hid (alloc_below w (.cells #[.int .i64 0, .int .i64 0] 23))
  have hf0 : ∀ (x y : Value) (w : World), (Instr.field 23 (.agg #[x, y]) 0).run Tryd.prog w = .ok x w := fun _ _ _ => by kernel_rfl
  have hf1 : ∀ (x y : Value) (w : World), (Instr.field 23 (.agg #[x, y]) 1).run Tryd.prog w = .ok y w := fun _ _ _ => by kernel_rfl
  go_enter Tryd.func52, Tryd.ntmps52
  go_wp2_with fail
  go_loopw [3, 4] (fun lo hi wr => RArcRel v w lo hi wr) (fun lo hi _ => (intOf hi - intOf lo).toNat)
  case atStart => exact ⟨0, 180000001, rfl, rfl, by omega, by omega, by omega, by rw [show sineE (0 + 90000000) = (100000000, 100000000) from by decide +kernel]; exact h1, fun h => by omega, KB.out, SR.out⟩
  case round =>
    clear SR KB
    obtain ⟨l, h, rfl, rfl, l0, lh, h180, pl, ph, hB, hS⟩ := hrel
    by_cases c : 1 < h - l
    · have PL := Lib.hid pl
      have PH := Lib.hid ph
      have HB := Lib.hid hB
      have HS := Lib.hid hS
      clear pl ph hB hS
      go_wp2_with fail
      refine (rsine_any ((l + h) / 2 + 90000000) (by omega) (by omega) _).mono ?_
      rintro e w1 ⟨rfl, hB1⟩
      have KB := Lib.hid (blw_next HB.out hB1)
      have KS := Lib.hid (HS.out.nxt hB1)
      clear hB1 HB HS
      by_cases d : v ≤ (sineE ((l + h) / 2 + 90000000)).1
      · have N : Hid (RArcRel v w (.int .i64 ((l + h) / 2)) (.int .i64 h) w1) := Lib.hid ⟨(l + h) / 2, h, rfl, rfl, by omega, by omega, h180, d, PH.out, KB.out, KS.out⟩
        go_wp2_with fail
        go_roundw
        case rel => exact N.out
        case measure => simp only [intOf]; omega
      · have N : Hid (RArcRel v w (.int .i64 l) (.int .i64 ((l + h) / 2)) w1) := Lib.hid ⟨l, (l + h) / 2, rfl, rfl, l0, by omega, by omega, PL.out, fun _ => by omega, KB.out, KS.out⟩
        have d' : (sineE ((l + h) / 2 + 90000000)).1 < v := by omega
        clear d
        go_wp2_with fail
        go_roundw
        case rel => exact N.out
        case measure => simp only [intOf]; omega
    · obtain rfl : h = l + 1 := by omega
      have AL := arc_last v l h1 l0 (by omega) pl (fun hl => ph (by omega))
      have la := arcN_le v
      have E1 := cosE_up l l0 (by omega)
      have VE : Hid (rarcE v = (l, l + (if (sineE (l + 90000000)).2 ≤ v then 0 else 1))) := Lib.hid (by
        rw [E1, show 180000000 - l = (arcN v : Int) by omega]
        unfold rarcE
        rw [← AL])
      have HB := Lib.hid hB
      have HS := Lib.hid hS
      clear pl ph hB hS AL la E1
      go_wp2_with fail
      refine (rsine_any (l + 90000000) (by omega) (by omega) _).mono ?_
      rintro e w1 ⟨rfl, hB1⟩
      have KB := Lib.hid (blw_next HB.out hB1)
      have KS := Lib.hid (HS.out.nxt hB1)
      obtain ⟨_, r0, r1, f0, f1⟩ := HS.out.nxt hB1
      clear hB1 HB HS
      by_cases d : (sineE (l + 90000000)).2 ≤ v
      · have V : Hid (rarcE v = (l, l)) := Lib.hid (by rw [VE.out, if_pos d, Int.add_zero])
        clear VE
        have SF := KS.out.two (.int .i64 l) (.int .i64 l)
        go_wp2_with fail
        rw [V.out]
        exact bodyPost_ret (v := .agg #[.int .i64 l, .int .i64 l]) (by simp [results, Tryd.results52, go_sem, SF.cell0, SF.cell1]) rfl ⟨rfl, (KB.out.setCell (p := ⟨w.heap.size, 0, none⟩) (Nat.le_refl _) _).setCell (p := ⟨w.heap.size, 1, none⟩) (Nat.le_refl _) _⟩
      · have V : Hid (rarcE v = (l, l + 1)) := Lib.hid (by rw [VE.out, if_neg d])
        have d' : v < (sineE (l + 90000000)).2 := by omega
        clear VE d
        have SF := KS.out.two (.int .i64 l) (.int .i64 (l + 1))
        go_wp2_with fail
        rw [V.out]
        exact bodyPost_ret (v := .agg #[.int .i64 l, .int .i64 (l + 1)]) (by simp [results, Tryd.results52, go_sem, SF.cell0, SF.cell1]) rfl ⟨rfl, (KB.out.setCell (p := ⟨w.heap.size, 0, none⟩) (Nat.le_refl _) _).setCell (p := ⟨w.heap.size, 1, none⟩) (Nat.le_refl _) _⟩
end Go.Proofs.YtnjedigjabijcaaDoor

namespace Go.Proofs.YtnjedigjabijcaaDoor
open Go Go.RowKit

set_option maxRecDepth 100000 in
set_option maxHeartbeats 8000000 in
theorem rArccos_any (lo hi : Int) (w : World) :
    Calls Tryd.prog 24 #[.agg #[.int .i64 lo, .int .i64 hi]] w fun e w' => e = .returned (pairV (arccosE lo hi).1 (arccosE lo hi).2) ∧ Below w.heap.size w w' := by
  have SA := (Slot2.new w (.int .i64 lo) (.int .i64 hi) 23).alloc (.cells #[.int .i64 0, .int .i64 0] 23)
  have SR := Slot2.new (w.alloc (.cells #[.int .i64 lo, .int .i64 hi] 23)) (.int .i64 0) (.int .i64 0) 23
  simp only [World.size_alloc] at SR
  have KB := Lib.hid (blw_alloc (alloc_below w (.cells #[.int .i64 lo, .int .i64 hi] 23)) (.cells #[.int .i64 0, .int .i64 0] 23))
  have QR := Lib.hid SR
  clear SR
  obtain ⟨lA, a0, a1, _, _⟩ := SA
  by_cases hok : inB lo hi (-100000000) 100000000 = true
  · obtain ⟨i1, i2, i3⟩ := inB_yes hok
    have V := Lib.hid (arccos_eq lo hi hok)
    clear hok
    have hf0 : ∀ (x y : Value) (w : World), (Instr.field 23 (.agg #[x, y]) 0).run Tryd.prog w = .ok x w := fun _ _ _ => by kernel_rfl
    have hf1 : ∀ (x y : Value) (w : World), (Instr.field 23 (.agg #[x, y]) 1).run Tryd.prog w = .ok y w := fun _ _ _ => by kernel_rfl
    go_enter Tryd.func24, Tryd.ntmps24
    go_upto_region 3 with (fail)
    have QK := Lib.hid (show OwnA ((w.alloc (.cells #[.int .i64 lo, .int .i64 hi] 23)).alloc (.cells #[.int .i64 0, .int .i64 0] 23)) ((w.alloc (.cells #[.int .i64 lo, .int .i64 hi] 23)).alloc (.cells #[.int .i64 0, .int .i64 0] 23)) w.heap.size lo hi from ⟨Below.refl _ _, lA, a0, a1⟩)
    have szW : ((w.alloc (.cells #[.int .i64 lo, .int .i64 hi] 23)).alloc (.cells #[.int .i64 0, .int .i64 0] 23)).heap.size = w.heap.size + 2 := by simp
    have SZ := Lib.hid szW
    clear szW
    generalize (w.alloc (.cells #[.int .i64 lo, .int .i64 hi] 23)).alloc (.cells #[.int .i64 0, .int .i64 0] 23) = W at *
    obtain ⟨_, r0, r1, f0, f1⟩ := QR.out
    go_region_held3 (fun w' => w'.cell? ⟨w.heap.size, 0, none⟩ = some (.int .i64 lo) ∧ w'.cell? ⟨w.heap.size, 1, none⟩ = some (.int .i64 hi))
      ((go_split_ands; (repeat' apply And.intro) <;> (repeat' (first | with_reducible assumption | with_reducible exact OwnA.lo QK.out | with_reducible exact OwnA.hi QK.out | with_reducible refine rs_drew ?_ | with_reducible refine rs_alloc ?_ | (with_reducible refine rs_set ?_ ?hne; case hne => (dsimp only; omega))))))
      (first
      | (go_at_call 52; refine (rarccos_any _ (by omega) (by omega) _).mono ?_; rintro e wN ⟨rfl, hN⟩
         first | with_reducible replace hN := rs_undrew hN | skip
         have QK := Lib.hid (QK.out.next hN)
         have QR := Lib.hid (QR.out.nxt hN)
         obtain ⟨_, r0, r1, f0, f1⟩ := QR.out)
      | fail)
    all_goals (go_wp2_with fail)
    all_goals rw [V.out]
    all_goals
      have SF := QR.out.two (.int .i64 (rarcE hi).1) (.int .i64 (rarcE lo).2)
      exact bodyPost_ret (v := pairV ((rarcE hi).1, (rarcE lo).2) 0) (by simp [results, Tryd.results24, go_sem, SF.cell0, SF.cell1]; exact rfl) rfl
        ⟨rfl, ((blw_next KB.out QK.out.below).setCell (p := ⟨w.heap.size + 1, 0, none⟩) (by simp only; omega) _).setCell (p := ⟨w.heap.size + 1, 1, none⟩) (by simp only; omega) _⟩
  · have hno : inB lo hi (-100000000) 100000000 = false := by simpa using hok
    have V := Lib.hid (arccos_no lo hi hno)
    have hc : ¬ lo ≤ hi ∨ (lo ≤ hi ∧ lo < -100000000) ∨ (lo ≤ hi ∧ -100000000 ≤ lo ∧ 100000000 < hi) := by
      unfold inB at hno
      simp only [Bool.and_eq_false_iff, decide_eq_false_iff_not] at hno
      omega
    clear hno hok
    rcases hc with c | ⟨c, d⟩ | ⟨c, d, e⟩
    all_goals
      go_enter Tryd.func24, Tryd.ntmps24
      go_wp2_with fail
    all_goals rw [V.out]
    all_goals exact bodyPost_ret (v := pairV (0, 0) 7) (by simp [results, Tryd.results24, go_sem, QR.out.cell0, QR.out.cell1]; exact rfl) rfl ⟨rfl, KB.out⟩
theorem arc_both (lo hi : Int) : (∃ x y : Int, arccosE lo hi = ((x, y), 0) ∧ arcsinE lo hi = ((90000000 - y, 90000000 - x), 0) ∧ 0 ≤ x ∧ x ≤ 200000000 ∧ 0 ≤ y ∧ y ≤ 200000000) ∨ (arccosE lo hi = ((0, 0), 7) ∧ arcsinE lo hi = ((0, 0), 7)) := by
  cases h : inB lo hi (-100000000) 100000000
  · exact Or.inr ⟨arccos_no lo hi h, arcsinE_no lo hi h⟩
  · left
    have e := arcsinE_ok lo hi h
    have a := arcN_le hi
    have b := arcN_le (-lo)
    refine ⟨180000000 - (arcN hi : Int), (arcN (-lo) : Int), ?_, ?_, by omega, by omega, by omega, by omega⟩
    · unfold arccosE
      rw [e, if_pos rfl]
      simp only
      congr 2 <;> omega
    · rw [e]
      congr 2 <;> omega
set_option maxRecDepth 100000 in
set_option maxHeartbeats 8000000 in
theorem rArcsin_any (lo hi : Int) (w : World) :
    Calls Tryd.prog 26 #[.agg #[.int .i64 lo, .int .i64 hi]] w fun e w' => e = .returned (pairV (arcsinE lo hi).1 (arcsinE lo hi).2) ∧ Below w.heap.size w w' := by
  have SR := Slot2.new (w.alloc (.cells #[.int .i64 lo, .int .i64 hi] 23)) (.int .i64 0) (.int .i64 0) 23
  have SA := (Slot2.new w (.int .i64 lo) (.int .i64 hi) 23).alloc (.cells #[.int .i64 0, .int .i64 0] 23)
  simp only [World.size_alloc] at SR
  have KB := Lib.hid (blw_alloc (alloc_below w (.cells #[.int .i64 lo, .int .i64 hi] 23)) (.cells #[.int .i64 0, .int .i64 0] 23))
  have QR := Lib.hid SR
  clear SR
  obtain ⟨_, a0, a1, _, _⟩ := SA
  rcases arc_both lo hi with ⟨x, y, hA, hS, x0, x1, y0, y1⟩ | ⟨hA, hS⟩
  · have VA := Lib.hid hA
    have VS := Lib.hid hS
    clear hA hS
    go_enter Tryd.func26, Tryd.ntmps26
    go_wp2_with fail
    refine (rArccos_any lo hi _).mono ?_
    rw [VA.out]
    unfold pairV
    rintro e w1 ⟨rfl, hB⟩
    have KB := Lib.hid (blw_next KB.out hB)
    have QR := Lib.hid (QR.out.nxt hB)
    clear hB a0 a1
    have lr := QR.out.lies
    have S1 := Slot2.new w1 (.int .i64 x) (.int .i64 y) 23
    obtain ⟨_, a0, a1, _, _⟩ := S1
    have KC := Lib.hid (blw_alloc KB.out (.cells #[.int .i64 x, .int .i64 y] 23))
    have QC := Lib.hid (QR.out.alloc (.cells #[.int .i64 x, .int .i64 y] 23))
    obtain ⟨_, r0, r1, f0, f1⟩ := QC.out
    go_upto_region 4 with (fail)
    generalize w1.alloc (.cells #[.int .i64 x, .int .i64 y] 23) = V at *
    have SF := QC.out.two (.int .i64 (90000000 - y)) (.int .i64 (90000000 - x))
    go_wp2_with fail
    rw [VS.out]
    exact bodyPost_ret (v := pairV (90000000 - y, 90000000 - x) 0) (by simp [results, Tryd.results26, go_sem, SF.cell0, SF.cell1]; exact rfl) rfl
      ⟨rfl, (KC.out.setCell (p := ⟨w.heap.size + 1, 0, none⟩) (by simp only; omega) _).setCell (p := ⟨w.heap.size + 1, 1, none⟩) (by simp only; omega) _⟩
  · have VA := Lib.hid hA
    have VS := Lib.hid hS
    clear hA hS
    go_enter Tryd.func26, Tryd.ntmps26
    go_wp2_with fail
    refine (rArccos_any lo hi _).mono ?_
    rw [VA.out]
    unfold pairV
    rintro e w1 ⟨rfl, hB⟩
    have KC := Lib.hid (blw_alloc (blw_next KB.out hB) (.cells #[.int .i64 0, .int .i64 0] 23))
    have QC := Lib.hid ((QR.out.nxt hB).alloc (.cells #[.int .i64 0, .int .i64 0] 23))
    obtain ⟨_, r0, r1, f0, f1⟩ := QC.out
    clear hB a0 a1
    go_upto_region 3 with (fail)
    generalize w1.alloc (.cells #[.int .i64 0, .int .i64 0] 23) = V at *
    have SF := QC.out.two (.int .i64 0) (.int .i64 0)
    go_wp2_with fail
    rw [VS.out]
    exact bodyPost_ret (v := pairV (0, 0) 7) (by simp [results, Tryd.results26, go_sem, SF.cell0, SF.cell1]; exact rfl) rfl
      ⟨rfl, (KC.out.setCell (p := ⟨w.heap.size + 1, 0, none⟩) (by simp only; omega) _).setCell (p := ⟨w.heap.size + 1, 1, none⟩) (by simp only; omega) _⟩
end Go.Proofs.YtnjedigjabijcaaDoor

namespace Go.Proofs.YtnjedigjabijcaaDoor
open Go Go.RowKit

theorem ar_inB_eq (lo hi a b : Int) : inB lo hi a b = decide (a ≤ lo ∧ lo ≤ hi ∧ hi ≤ b) := by
  unfold inB
  rw [Bool.eq_iff_iff]
  simp only [Bool.and_eq_true, decide_eq_true_eq, and_assoc]

def ar_valE (l : List (Int × Int)) : Int := if l.all (fun p => inB p.1 p.2 (-3000000000) 3000000000) then 0 else 7
theorem ar_valE_no {l : List (Int × Int)} {k : Nat} (h : k < l.length) (hb : inB l[k].1 l[k].2 (-3000000000) 3000000000 = false) : ar_valE l = 7 := by
  unfold ar_valE
  rw [if_neg]
  intro hall
  have := List.all_eq_true.1 hall l[k] (List.getElem_mem h)
  simp [hb] at this
theorem ar_valE_yes {l : List (Int × Int)} (h : ∀ j (hj : j < l.length), inB l[j].1 l[j].2 (-3000000000) 3000000000 = true) : ar_valE l = 0 := by
  unfold ar_valE
  rw [if_pos]
  rw [List.all_eq_true]
  intro p hp
  obtain ⟨j, hj, rfl⟩ := List.mem_iff_getElem.1 hp
  exact h j hj
theorem ar_ret_num {k : IntKind} {a b : Int} (h : a = b) : Ending.returned (.int k a) = .returned (.int k b) := by rw [h]

def ar_ValRel (w : World) (l : List (Int × Int)) (i : Value) (wr : World) : Prop :=
  ∃ k : Nat, k ≤ l.length ∧ i = .int .i64 k ∧ Below w.heap.size w wr ∧ ∀ j (hj : j < l.length), j < k → inB l[j].1 l[j].2 (-3000000000) 3000000000 = true
theorem ar_val_step {w wr : World} {l : List (Int × Int)} {k : Nat} (h : k < l.length) (hB : Below w.heap.size w wr) (hj : ∀ j (hj : j < l.length), j < k → inB l[j].1 l[j].2 (-3000000000) 3000000000 = true)
    (hb : inB l[k].1 l[k].2 (-3000000000) 3000000000 = true) (n : Nat) : ar_ValRel w l (.int .i64 ((k : Int) + 1)) (wr.drewN n) := by
  refine ⟨k + 1, h, by go_num, ⟨hB.os, hB.tape, hB.output, hB.size, hB.block⟩, fun j hjl hjk => ?_⟩
  rcases Nat.lt_or_eq_of_le (Nat.le_of_lt_succ hjk) with h1 | h1
  · exact hj j hjl h1
  · subst h1; exact hb
theorem ar_below_drawn {w wr : World} (hB : Below w.heap.size w wr) (n : Nat) : Below w.heap.size w (wr.drewN n) := ⟨hB.os, hB.tape, hB.output, hB.size, hB.block⟩

set_option maxHeartbeats 2000000 in
theorem ar_valued_any (b off cap : Nat) (l : List (Int × Int)) (hl : l.length ≤ 1000) (w : World) (hr : Row2 w b off l) :
    Calls Tryd.prog 55 #[.slice (some ⟨b, off, none⟩) l.length cap] w fun e w' => e = .returned (.int .i64 (ar_valE l)) ∧ Below w.heap.size w w' := by
  go_enter Tryd.func55, Tryd.ntmps55
  go_wp2
  go_loopw [3] (fun i wr => ar_ValRel w l i wr) (fun i wr => l.length - (intOf i).toNat)
  case atStart => exact ⟨0, Nat.zero_le _, rfl, Below.refl _ _, fun j _ h => absurd h (Nat.not_lt_zero _)⟩
  case round =>
    obtain ⟨k, hk, rfl, hB, hj⟩ := hrel
    by_cases hlt : k < l.length
    · obtain ⟨c0, c1⟩ := (hr.below hB hr.1).2 k hlt
      have hk64 : (k : Int) < (l.length : Int) := by omega
      cases hc : inB l[k].1 l[k].2 (-3000000000) 3000000000
      · have E := Lib.hid (ar_valE_no hlt hc)
        have D : l[k].2 < l[k].1 ∨ (¬ l[k].2 < l[k].1 ∧ l[k].1 < -3000000000) ∨ (¬ l[k].2 < l[k].1 ∧ ¬ l[k].1 < -3000000000 ∧ 3000000000 < l[k].2) := by
          rw [ar_inB_eq] at hc
          have := of_decide_eq_false hc
          omega
        have HB := Lib.hid hB
        clear hc hj hB hr
        rcases D with d1 | ⟨d1, d2⟩ | ⟨d1, d2, d3⟩
        all_goals
          go_wp2_with fail
          go_quiet (fail)
          go_wp2_with fail
          go_ret
          exact ⟨ar_ret_num (by rw [E.out]), ar_below_drawn HB.out _⟩
      · obtain ⟨i1, i2, i3⟩ := inB_yes hc
        have F := Lib.hid (ar_val_step hlt hB hj hc)
        have d1 : ¬ l[k].2 < l[k].1 := by omega
        have d2 : ¬ l[k].1 < -3000000000 := by omega
        have d3 : ¬ 3000000000 < l[k].2 := by omega
        clear hc hj hB hr i1 i2 i3
        go_wp2_with fail
        go_quiet (fail)
        go_wp2_with fail
        go_roundw
        case rel => exact F.out _
        case measure => simp [intOf]; omega
    · have E := Lib.hid (ar_valE_yes (l := l) fun j h => hj j h (by omega))
      have HB := Lib.hid hB
      have hk64 : ¬ (k : Int) < (l.length : Int) := by omega
      clear hj hB hr
      go_wp2
      go_ret
      exact ⟨ar_ret_num (by rw [E.out]), HB.out⟩

def ar_checkedE (p : Int × Int) : (Int × Int) × Int := if inB p.1 p.2 (-3000000000) 3000000000 then (p, 0) else ((0, 0), 7)
theorem ar_checked_yes {p : Int × Int} (h : inB p.1 p.2 (-3000000000) 3000000000 = true) : ar_checkedE p = (p, 0) := by unfold ar_checkedE; rw [h]; rfl
theorem ar_checked_no {p : Int × Int} (h : inB p.1 p.2 (-3000000000) 3000000000 = false) : ar_checkedE p = ((0, 0), 7) := by unfold ar_checkedE; rw [h]; rfl

theorem Slot2.arow (V : World) (b : Nat) (p : Int × Int) (h : Slot2 V b (.int .i64 p.1) (.int .i64 p.2)) : Row2 V b 0 [p] := by
  refine ⟨h.lies, fun i hi => ?_⟩
  obtain rfl : i = 0 := by simp at hi; omega
  exact ⟨h.cell0, h.cell1⟩

theorem ar_valE_one (p : Int × Int) : ar_valE [p] = (ar_checkedE p).2 := by
  unfold ar_valE ar_checkedE
  simp only [List.all_cons, List.all_nil, Bool.and_true]
  split <;> rfl

set_option maxHeartbeats 2000000 in
/-- An enclosure of values, or an error. -/
theorem ar_result_any (lo hi : Int) (w : World) :
    Calls Tryd.prog 57 #[.int .i64 lo, .int .i64 hi] w fun e w' => e = .returned (pairV (ar_checkedE (lo, hi)).1 (ar_checkedE (lo, hi)).2) ∧ Below w.heap.size w w' := by
  have SR0 := ((Slot2.new w (.int .i64 0) (.int .i64 0) 23).alloc (.cells #[.int .i64 lo, .int .i64 hi] 23)).alloc (.cells #[.int .i64 lo, .int .i64 hi] 23)
  have SX0 := (Slot2.new (w.alloc (.cells #[.int .i64 0, .int .i64 0] 23)) (.int .i64 lo) (.int .i64 hi) 23).alloc (.cells #[.int .i64 lo, .int .i64 hi] 23)
  have SV0 := Slot2.new ((w.alloc (.cells #[.int .i64 0, .int .i64 0] 23)).alloc (.cells #[.int .i64 lo, .int .i64 hi] 23)) (.int .i64 lo) (.int .i64 hi) 23
  have hW := below_alloc (below_alloc (alloc_below w (.cells #[.int .i64 0, .int .i64 0] 23)) (.cells #[.int .i64 lo, .int .i64 hi] 23)) (.cells #[.int .i64 lo, .int .i64 hi] 23)
  simp only [World.size_alloc] at SX0 SV0
  have HC := Lib.hid (fun cap => ar_valued_any (w.heap.size + 1 + 1) 0 cap [(lo, hi)] (by simp) _ (SV0.arow _ _ (lo, hi)))
  clear SV0
  go_enter Tryd.func57, Tryd.ntmps57
  go_wp2_with fail
  refine (HC.out _).mono ?_
  rintro e w1 ⟨rfl, hB1⟩
  have SR := SR0.next hB1
  have SX := SX0.next hB1
  have hB := below_next hW hB1
  clear SR0 SX0 hW hB1 HC
  rw [ar_valE_one]
  cases hc : inB lo hi (-3000000000) 3000000000
  · have E := Lib.hid (ar_checked_no (p := (lo, hi)) hc)
    rw [ar_checked_no (p := (lo, hi)) hc]
    clear hc SX
    have SF := SR.both (.int .i64 0) (.int .i64 0)
    have HB := Lib.hid (below_both hB (Nat.le_refl _) (.int .i64 0) (.int .i64 0))
    obtain ⟨liesR, r0, r1, rf0, rf1⟩ := SR
    clear hB
    simp only
    go_wp2_with fail
    refine bodyPost_ret (v := pairV (0, 0) 7) (by simp [results, Tryd.results57, go_sem, SF.cell0, SF.cell1]; exact rfl) rfl ⟨by rw [E.out], HB.out⟩
  · have E := Lib.hid (ar_checked_yes (p := (lo, hi)) hc)
    rw [ar_checked_yes (p := (lo, hi)) hc]
    clear hc
    have SF := SR.both (.int .i64 lo) (.int .i64 hi)
    have HB := Lib.hid (below_both hB (Nat.le_refl _) (.int .i64 lo) (.int .i64 hi))
    obtain ⟨liesR, r0, r1, rf0, rf1⟩ := SR
    obtain ⟨_, a0, a1, _, _⟩ := SX
    clear hB
    simp only
    go_wp2_with fail
    refine bodyPost_ret (v := pairV (lo, hi) 0) (by simp [results, Tryd.results57, go_sem, SF.cell0, SF.cell1]; exact rfl) rfl ⟨by rw [E.out], HB.out⟩

end Go.Proofs.YtnjedigjabijcaaDoor

namespace Go.Proofs.YtnjedigjabijcaaDoor
open Go Go.RowKit

def RRootRel (n : Nat) (w : World) (lo hi : Value) (wr : World) : Prop :=
  ∃ l h : Nat, lo = .int .i64 ((l : Nat) : Int) ∧ hi = .int .i64 ((h : Nat) : Int) ∧ l < h ∧ h ≤ 2147483648 ∧ l * l ≤ n ∧ n < h * h ∧ w = wr
set_option maxRecDepth 100000 in
set_option maxHeartbeats 4000000 in
theorem rroot_any (n : Nat) (hn : n ≤ 300000000000000000) (w : World) :
    Calls Tryd.prog 56 #[.int .i64 (n : Int)] w fun e w' => e = .returned (.int .i64 ((sqN n : Nat) : Int)) ∧ w = w' := by
  go_enter Tryd.func56, Tryd.ntmps56
  go_wp2_with fail
  go_loopw [3, 4] (fun lo hi wr => RRootRel n w lo hi wr) (fun lo hi _ => (intOf hi - intOf lo).toNat)
  case atStart => exact ⟨0, 2147483648, rfl, rfl, by omega, by omega, by omega, by omega, rfl⟩
  case round =>
    obtain ⟨l, h, rfl, rfl, lh, ht, hl, hh, rfl⟩ := hrel
    by_cases c : 1 < h - l
    · obtain ⟨m, hm⟩ : ∃ m, m = (l + h) / 2 := ⟨_, rfl⟩
      have e : ((l : Int) + (h : Int)) / 2 = (m : Int) := by omega
      have mm : m * m ≤ 2147483648 * 2147483648 := Nat.mul_le_mul (by omega) (by omega)
      have me : ((m * m : Nat) : Int) = (m : Int) * (m : Int) := Int.natCast_mul _ _
      have p0 : 0 ≤ (m : Int) * (m : Int) := by rw [← me]; omega
      have p1 : (m : Int) * (m : Int) ≤ 4611686018427387904 := by rw [← me]; omega
      have ml : l < m := by omega
      have mh : m < h := by omega
      have HL := Lib.hid hl
      have HH := Lib.hid hh
      have ME := Lib.hid me
      clear hl hh me mm
      by_cases d : (m : Int) * (m : Int) ≤ (n : Int)
      · have N : Hid (RRootRel n w (.int .i64 ((m : Nat) : Int)) (.int .i64 ((h : Nat) : Int)) w) := Lib.hid ⟨m, h, rfl, rfl, by omega, by omega, by have := ME.out; omega, HH.out, rfl⟩
        go_upto_region 4 with (fail)
        rw [e]
        clear e hm
        go_wp2_with fail
        go_roundw
        case rel => exact N.out
        case measure => simp only [intOf]; omega
      · have N : Hid (RRootRel n w (.int .i64 ((l : Nat) : Int)) (.int .i64 ((m : Nat) : Int)) w) := Lib.hid ⟨l, m, rfl, rfl, by omega, by omega, HL.out, by have := ME.out; omega, rfl⟩
        have d' : (n : Int) < (m : Int) * (m : Int) := by omega
        clear d
        go_upto_region 4 with (fail)
        rw [e]
        clear e hm
        go_wp2_with fail
        go_roundw
        case rel => exact N.out
        case measure => simp only [intOf]; omega
    · obtain rfl : h = l + 1 := by omega
      have E := Lib.hid (sqN_eq (n := n) (R := l) ⟨hl, hh⟩)
      clear hl hh
      go_wp2_with fail
      go_ret
      exact ⟨ret_int (by rw [E.out]), rfl⟩
end Go.Proofs.YtnjedigjabijcaaDoor

namespace Go.Proofs.YtnjedigjabijcaaDoor
open Go Go.RowKit

theorem arE_single (p : Int × Int) : ar_valE [p] = if inB p.1 p.2 (-3000000000) 3000000000 = true then 0 else 7 := by
  unfold ar_valE
  simp only [List.all_cons, List.all_nil, Bool.and_true]
theorem rt_self (m : Nat) : rtN m * rtN m ≤ m * 100000000 ∧ (exB m = true ↔ rtN m * rtN m = m * 100000000) := by
  refine ⟨(sqN_spec (m * 100000000)).1, ?_⟩
  unfold exB
  simp
theorem rt_up (m n : Nat) (h : m ≤ n) : rtN m ≤ rtN n := by
  have a := (sqN_spec (m * 100000000)).1
  have b := (sqN_spec (n * 100000000)).2
  unfold rtN
  have c : sqN (m * 100000000) * sqN (m * 100000000) < (sqN (n * 100000000) + 1) * (sqN (n * 100000000) + 1) := Nat.lt_of_le_of_lt a (Nat.lt_of_le_of_lt (Nat.mul_le_mul_right _ h) b)
  have := Nat.mul_self_lt_mul_self_iff.1 c
  omega
theorem rroot_k (k : Nat) (hk : k ≤ 3000000000) (w : World) :
    Calls Tryd.prog 56 #[.int .i64 ((k : Int) * 100000000)] w fun e w' => e = .returned (.int .i64 ((rtN k : Nat) : Int)) ∧ w = w' := by
  have h := rroot_any (k * 100000000) (by omega) w
  rw [Int.natCast_mul] at h
  exact h
set_option maxRecDepth 100000 in
set_option maxHeartbeats 8000000 in
theorem rRoot_any (lo hi : Int) (w : World) :
    Calls Tryd.prog 28 #[.agg #[.int .i64 lo, .int .i64 hi]] w fun e w' => e = .returned (pairV (rootE lo hi).1 (rootE lo hi).2) ∧ Below w.heap.size w w' := by
  have s1 := ((Slot2.new w (.int .i64 lo) (.int .i64 hi) 23).alloc (.cells #[.int .i64 0, .int .i64 0] 23)).alloc (.cells #[.int .i64 lo, .int .i64 hi] 23)
  have s2 := (Slot2.new (w.alloc (.cells #[.int .i64 lo, .int .i64 hi] 23)) (.int .i64 0) (.int .i64 0) 23).alloc (.cells #[.int .i64 lo, .int .i64 hi] 23)
  have s3 := Slot2.new ((w.alloc (.cells #[.int .i64 lo, .int .i64 hi] 23)).alloc (.cells #[.int .i64 0, .int .i64 0] 23)) (.int .i64 lo) (.int .i64 hi) 23
  have KB := Lib.hid (below_alloc (below_alloc (alloc_below w (.cells #[.int .i64 lo, .int .i64 hi] 23)) (.cells #[.int .i64 0, .int .i64 0] 23)) (.cells #[.int .i64 lo, .int .i64 hi] 23))
  simp only [World.size_alloc] at s2 s3
  have HC := Lib.hid (fun cap => ar_valued_any (w.heap.size + 1 + 1) 0 cap [(lo, hi)] (by simp) _ (Slot2.arow _ _ (lo, hi) s3))
  have SA := Lib.hid s1
  have SR := Lib.hid s2
  clear s2 s3
  obtain ⟨_, a0, a1, _, _⟩ := s1
  go_enter Tryd.func28, Tryd.ntmps28
  go_wp2_with fail
  refine (HC.out _).mono ?_
  rw [arE_single]
  rintro e w1 ⟨rfl, hB1⟩
  have K1 := Lib.hid (below_next KB.out hB1)
  have A1 := Lib.hid (SA.out.next hB1)
  have R1 := Lib.hid (SR.out.next hB1)
  clear HC hB1 a0 a1 KB SA SR
  have la := A1.out.lies
  have lr := R1.out.lies
  obtain ⟨_, a0, a1, _, _⟩ := A1.out
  obtain ⟨_, r0, r1, f0, f1⟩ := R1.out
  by_cases hv : inB lo hi (-3000000000) 3000000000 = true
  · rw [if_pos hv]
    obtain ⟨i1, i2, i3⟩ := inB_yes hv
    by_cases h0 : 0 ≤ lo
    · have E := Lib.hid (rootE_ok lo hi (by unfold inB; simp; omega))
      obtain ⟨m, rfl⟩ : ∃ m : Nat, lo = (m : Int) := ⟨lo.toNat, by omega⟩
      obtain ⟨n, rfl⟩ : ∃ n : Nat, hi = (n : Int) := ⟨hi.toNat, by omega⟩
      simp only [Int.toNat_natCast] at E
      have g1 : IntKind.i64.wrap ((m : Int) * 100000000) = (m : Int) * 100000000 := IntWalk.i64_in _ (by omega)
      have g2 : IntKind.i64.wrap ((n : Int) * 100000000) = (n : Int) * 100000000 := IntWalk.i64_in _ (by omega)
      have M := Lib.hid (show rtN n ≤ 600000000 ∧ rtN m ≤ 600000000 ∧ rtN m ≤ rtN n ∧ rtN n * rtN n ≤ n * 100000000 ∧ (exB n = true ↔ rtN n * rtN n = n * 100000000) from ⟨rtN_le n (by omega), rtN_le m (by omega), rt_up m n (by omega), (rt_self n).1, (rt_self n).2⟩)
      have b1 : (m : Int) ≤ 3000000000 := by omega
      clear hv i2
      go_wp2_with fail
      go_quiet ((go_at_call 56; exact Calls.quiet_of_same ((rroot_k _ (by omega) _).mono fun _ _ ⟨h, h'⟩ => ⟨h, h'.symm⟩)))
      clear g1 g2
      obtain ⟨bn, bm, up, se, ex⟩ := M.out
      have pe : ((rtN n * rtN n : Nat) : Int) = ((rtN n : Nat) : Int) * ((rtN n : Nat) : Int) := Int.natCast_mul _ _
      have p0 : 0 ≤ ((rtN n : Nat) : Int) * ((rtN n : Nat) : Int) := by rw [← pe]; omega
      have p1 : ((rtN n : Nat) : Int) * ((rtN n : Nat) : Int) ≤ (n : Int) * 100000000 := by rw [← pe]; omega
      by_cases d : ((rtN n : Nat) : Int) * ((rtN n : Nat) : Int) < (n : Int) * 100000000
      · have UP : upN n = rtN n + 1 := upN_no n (by
          cases hx : exB n
          · rfl
          · have := ex.1 hx; omega)
        rw [UP] at E
        have CK := Lib.hid (ar_checked_yes (p := (((rtN m : Nat) : Int), ((rtN n : Nat) : Int) + 1)) (by unfold inB; simp only; simp; omega))
        clear M UP se ex pe up
        generalize rtN m = a at *
        generalize rtN n = b at *
        clear bm
        go_wp2_with fail
        refine (ar_result_any _ _ _).mono ?_
        rw [CK.out]
        unfold pairV
        rintro e w4 ⟨rfl, hB⟩
        have K4 := Lib.hid (below_next (below_drewN K1.out nq) hB)
        have R4 := Lib.hid ((show Slot2 (w1.drewN nq) (w.heap.size + 1) (.int .i64 0) (.int .i64 0) from ⟨R1.out.1, R1.out.2, R1.out.3, R1.out.4, R1.out.5⟩).next hB)
        have SF := R4.out.both (.int .i64 (a : Int)) (.int .i64 ((b : Int) + 1))
        obtain ⟨_, y0, y1, z0, z1⟩ := R4.out
        clear hB K1 R1 r0 r1 f0 f1 p0 p1 d a0 a1
        go_wp2_with fail
        rw [E.out]
        exact bodyPost_ret (v := pairV ((a : Int), (b : Int) + 1) 0) (by simp [results, Tryd.results28, go_sem, SF.cell0, SF.cell1]; exact rfl) rfl ⟨by simp [pairV], below_both K4.out (by omega) _ _⟩
      · have UP : upN n = rtN n := upN_yes n (ex.2 (by omega))
        rw [UP] at E
        have CK := Lib.hid (ar_checked_yes (p := (((rtN m : Nat) : Int), ((rtN n : Nat) : Int))) (by unfold inB; simp only; simp; omega))
        have d' : (n : Int) * 100000000 = ((rtN n : Nat) : Int) * ((rtN n : Nat) : Int) := by omega
        clear M UP se ex pe up
        generalize rtN m = a at *
        generalize rtN n = b at *
        clear bm
        go_wp2_with fail
        refine (ar_result_any _ _ _).mono ?_
        rw [CK.out]
        unfold pairV
        rintro e w4 ⟨rfl, hB⟩
        have K4 := Lib.hid (below_next (below_drewN K1.out nq) hB)
        have R4 := Lib.hid ((show Slot2 (w1.drewN nq) (w.heap.size + 1) (.int .i64 0) (.int .i64 0) from ⟨R1.out.1, R1.out.2, R1.out.3, R1.out.4, R1.out.5⟩).next hB)
        have SF := R4.out.both (.int .i64 (a : Int)) (.int .i64 (b : Int))
        obtain ⟨_, y0, y1, z0, z1⟩ := R4.out
        clear hB K1 R1 r0 r1 f0 f1 p0 p1 d d' a0 a1
        go_wp2_with fail
        rw [E.out]
        exact bodyPost_ret (v := pairV ((a : Int), (b : Int)) 0) (by simp [results, Tryd.results28, go_sem, SF.cell0, SF.cell1]; exact rfl) rfl ⟨by simp [pairV], below_both K4.out (by omega) _ _⟩
    · have E := Lib.hid (rootE_no lo hi (by unfold inB; simp; omega))
      clear hv
      have SF := R1.out.both (.int .i64 0) (.int .i64 0)
      go_wp2_with fail
      rw [E.out]
      exact bodyPost_ret (v := pairV (0, 0) 7) (by simp [results, Tryd.results28, go_sem, SF.cell0, SF.cell1]; exact rfl) rfl ⟨rfl, below_both K1.out (by omega) _ _⟩
  · rw [if_neg hv]
    have E := Lib.hid (rootE_no lo hi (by
      cases hb : inB lo hi 0 3000000000
      · rfl
      · obtain ⟨j1, j2, j3⟩ := inB_yes hb
        exact absurd (by unfold inB; simp; omega) hv))
    clear hv
    have SF := R1.out.both (.int .i64 0) (.int .i64 0)
    go_wp2_with fail
    rw [E.out]
    exact bodyPost_ret (v := pairV (0, 0) 7) (by simp [results, Tryd.results28, go_sem, SF.cell0, SF.cell1]; exact rfl) rfl ⟨rfl, below_both K1.out (by omega) _ _⟩
end Go.Proofs.YtnjedigjabijcaaDoor
