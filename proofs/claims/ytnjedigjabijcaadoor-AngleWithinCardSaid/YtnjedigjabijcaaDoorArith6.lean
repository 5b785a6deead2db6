import Derived.Test.YtnjedigjabijcaaDoorArith5
namespace Go.Proofs.YtnjedigjabijcaaDoor
open Go Go.RowKit

set_option maxRecDepth 10000 in
set_option maxHeartbeats 4000000 in
theorem rover_any (x y : Int × Int) (w : World) :
    Calls Tryd.prog 36 #[.agg #[.int .i64 x.1, .int .i64 x.2], .agg #[.int .i64 y.1, .int .i64 y.2]] w fun e w' => e = .returned (pairV (overE x y).1 (overE x y).2) ∧ Below w.heap.size w w' := by
  obtain ⟨SX0, SY0, SR0, RO, hW⟩ := rstart x y w
  have HC := Lib.hid (fun cap => valued_any (w.heap.size + 1 + 1 + 1) 0 cap [x, y] (by simp) _ RO)
  clear RO
  go_enter Tryd.func36, Tryd.ntmps36
  go_wp2_with fail
  refine (HC.out _).mono ?_
  rintro e w1 ⟨rfl, hB1⟩
  have SX := SX0.next hB1
  have SY := SY0.next hB1
  have SR := SR0.next hB1
  have hB := below_next hW hB1
  clear SX0 SY0 SR0 hW hB1 HC
  cases hc : inV x && inV y
  · have E := Lib.hid (overE_no hc)
    rw [valE_two_no hc]
    clear hc SX SY
    have SF := SR.both (.int .i64 0) (.int .i64 0)
    have HB := Lib.hid (below_both hB (by omega : w.heap.size ≤ w.heap.size + 1 + 1) (.int .i64 0) (.int .i64 0))
    obtain ⟨liesR, r0, r1, rf0, rf1⟩ := SR
    clear hB
    go_wp2_with fail
    refine bodyPost_ret (v := pairV (0, 0) 7) (by simp [results, Tryd.results36, go_sem, SF.cell0, SF.cell1]; exact rfl) rfl ⟨by rw [E.out], HB.out⟩
  · obtain ⟨hx, hy⟩ := both_yes hc
    rw [valE_two_yes hc]
    clear hc
    obtain ⟨i1, i2, i3⟩ := inB_yes hx
    obtain ⟨j1, j2, j3⟩ := inB_yes hy
    rcases (by omega : (y.1 ≤ 0 ∧ 0 ≤ y.2) ∨ (0 < y.1) ∨ (y.1 ≤ 0 ∧ y.2 < 0)) with ⟨z1, z2⟩ | z1 | ⟨z1, z2⟩
    · have E := Lib.hid (overE_z hx hy ⟨z1, z2⟩)
      clear hx hy SX
      have SF := SR.both (.int .i64 0) (.int .i64 0)
      have HB := Lib.hid (below_both hB (by omega : w.heap.size ≤ w.heap.size + 1 + 1) (.int .i64 0) (.int .i64 0))
      obtain ⟨liesR, r0, r1, rf0, rf1⟩ := SR
      obtain ⟨_, b0, b1, _, _⟩ := SY
      clear hB
      go_wp2_with fail
      refine bodyPost_ret (v := pairV (0, 0) 8) (by simp [results, Tryd.results36, go_sem, SF.cell0, SF.cell1]; exact rfl) rfl ⟨by rw [E.out], HB.out⟩
    · have E := Lib.hid (overE_ok hx hy (by omega))
      have z2 : ¬ y.2 < 0 := by omega
      have HL := Lib.hid (least_pos_any x y hx hy z1)
      have SR3 := Lib.hid SR
      have HB2 := Lib.hid hB
      obtain ⟨_, a0, a1, _, _⟩ := SX
      obtain ⟨_, b0, b1, _, _⟩ := SY
      clear hx hy SR hB
      go_wp2_with fail
      refine (HL.out _).mono ?_
      rintro e w3 ⟨rfl, hB3⟩
      clear a0 a1 b0 b1 i1 i2 i3 j1 j2 j3 z1 z2
      go_wp2_with fail
      refine (result_any _ _ _).mono ?_
      rintro e w4 ⟨rfl, hB4⟩
      have SR4 := (SR3.out.next hB3).next hB4
      have hB5 := below_next (below_next HB2.out hB3) hB4
      clear SR3 HB2 hB3 hB4 HL
      have he : ((cornE overQ x y).1, (cornE overQ x y).2) = cornE overQ x y := rfl
      rw [he]
      clear he
      generalize hq : checkedE (cornE overQ x y) = q at *
      have E2 := Lib.hid hq
      clear hq
      have SF := SR4.both (.int .i64 q.1.1) (.int .i64 q.1.2)
      have HB := Lib.hid (below_both hB5 (by omega : w.heap.size ≤ w.heap.size + 1 + 1) (.int .i64 q.1.1) (.int .i64 q.1.2))
      obtain ⟨liesR, r0, r1, rf0, rf1⟩ := SR4
      clear hB5
      unfold pairV
      go_wp2_with fail
      refine bodyPost_ret (v := pairV q.1 q.2) (by simp [results, Tryd.results36, go_sem, SF.cell0, SF.cell1]; exact rfl) rfl ⟨by rw [E.out], HB.out⟩
    · have E := Lib.hid (overE_ok hx hy (by omega))
      have z3 : ¬ 0 ≤ y.2 := by omega
      have HL := Lib.hid (least_neg_any x y hx hy z2)
      have HXs := Lib.hid SX
      have HYs := Lib.hid SY
      have HRs := Lib.hid SR
      have HB2 := Lib.hid hB
      obtain ⟨_, a0, a1, af0, af1⟩ := SX
      obtain ⟨_, b0, b1, bf0, bf1⟩ := SY
      clear hx hy SR hB
      have kx : (-9223372036854775807 ≤ x.1 ∧ x.1 ≤ 9223372036854775807) ∧ (-9223372036854775807 ≤ x.2 ∧ x.2 ≤ 9223372036854775807) := by omega
      have ky : (-9223372036854775807 ≤ y.1 ∧ y.1 ≤ 9223372036854775807) ∧ (-9223372036854775807 ≤ y.2 ∧ y.2 ≤ 9223372036854775807) := by omega
      have CX := Lib.hid (rneg_any x.1 x.2 kx.1 kx.2)
      have CY := Lib.hid (rneg_any y.1 y.2 ky.1 ky.2)
      clear kx ky
      go_upto_region 7 with (fail)
      go_region_with (first
        | (go_at_call 66; refine (CX.out _).mono ?_; rintro e w2 ⟨rfl, hB2⟩; have hB2' : Below w1.heap.size w1 w2 := (by first | exact hB2 | exact undrew hB2); clear a0 a1 af0 af1 b0 b1 bf0 bf1; obtain ⟨_, b0, b1, _, _⟩ := HYs.out.next hB2'; have HX2 := Lib.hid (HXs.out.next hB2'); have HY2 := Lib.hid (HYs.out.next hB2'); have HR2 := Lib.hid (HRs.out.next hB2'); have HK2 := Lib.hid (below_next HB2.out hB2'); clear hB2 hB2' CX)
        | (go_at_call 66; refine (CY.out _).mono ?_; rintro e w3 ⟨rfl, hB3⟩; have hB3' : Below w2.heap.size w2 w3 := (by first | exact hB3 | exact undrew hB3); clear b0 b1; have HX3 := Lib.hid (HX2.out.next hB3'); have HY3 := Lib.hid (HY2.out.next hB3'); have HR3 := Lib.hid (HR2.out.next hB3'); have HK3 := Lib.hid (below_next HK2.out hB3'); obtain ⟨_, a0, a1, af0, af1⟩ := HX3.out; obtain ⟨_, b0, b1, bf0, bf1⟩ := HY3.out; clear hB3 hB3' CY HX2 HY2 HR2 HK2))
      all_goals
        clear a0 a1 af0 af1 b0 b1 bf0 bf1
        have SX4 := (HX3.out.both (.int .i64 (-x.2)) (.int .i64 (-x.1))).apart (c := w.heap.size + 1) (by omega) (.int .i64 (-y.2)) (.int .i64 (-y.1))
        have SY4 := (HY3.out.apart (c := w.heap.size) (by omega) (.int .i64 (-x.2)) (.int .i64 (-x.1))).both (.int .i64 (-y.2)) (.int .i64 (-y.1))
        have SR4 := (HR3.out.apart (c := w.heap.size) (by omega) (.int .i64 (-x.2)) (.int .i64 (-x.1))).apart (c := w.heap.size + 1) (by omega) (.int .i64 (-y.2)) (.int .i64 (-y.1))
        have hK4 := below_both (below_both HK3.out (b := w.heap.size) (by omega) (.int .i64 (-x.2)) (.int .i64 (-x.1))) (b := w.heap.size + 1) (by omega) (.int .i64 (-y.2)) (.int .i64 (-y.1))
        clear HX3 HY3 HR3 HK3 HXs HYs HRs HB2
        generalize (((w3.setCell ⟨w.heap.size, 0, none⟩ (.int .i64 (-x.2))).setCell ⟨w.heap.size, 1, none⟩ (.int .i64 (-x.1))).setCell ⟨w.heap.size + 1, 0, none⟩ (.int .i64 (-y.2))).setCell ⟨w.heap.size + 1, 1, none⟩ (.int .i64 (-y.1)) = V at *
        have SR3 := Lib.hid SR4
        have HB2 := Lib.hid hK4
        obtain ⟨_, a0, a1, _, _⟩ := SX4
        obtain ⟨_, b0, b1, _, _⟩ := SY4
        clear SR4 hK4
        go_wp2_with fail
        refine (HL.out _).mono ?_
        rintro e w3 ⟨rfl, hB3⟩
        clear a0 a1 b0 b1 i1 i2 i3 j1 j2 j3 z1 z2 z3
        go_wp2_with fail
        refine (result_any _ _ _).mono ?_
        rintro e w4 ⟨rfl, hB4⟩
        have SR4 := (SR3.out.next hB3).next hB4
        have hB5 := below_next (below_next HB2.out hB3) hB4
        clear SR3 HB2 hB3 hB4 HL
        have he : ((cornE overQ x y).1, (cornE overQ x y).2) = cornE overQ x y := rfl
        rw [he]
        clear he
        generalize hq : checkedE (cornE overQ x y) = q at *
        have E2 := Lib.hid hq
        clear hq
        have SF := SR4.both (.int .i64 q.1.1) (.int .i64 q.1.2)
        have HB := Lib.hid (below_both hB5 (by omega : w.heap.size ≤ w.heap.size + 1 + 1) (.int .i64 q.1.1) (.int .i64 q.1.2))
        obtain ⟨liesR, r0, r1, rf0, rf1⟩ := SR4
        clear hB5
        unfold pairV
        go_wp2_with fail
        refine bodyPost_ret (v := pairV q.1 q.2) (by simp [results, Tryd.results36, go_sem, SF.cell0, SF.cell1]; exact rfl) rfl ⟨by rw [E.out], HB.out⟩
end Go.Proofs.YtnjedigjabijcaaDoor
