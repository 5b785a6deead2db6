import Derived.Test.YtnjedigjabijcaaGreatDoorArithMath
namespace Go.Proofs.YtnjedigjabijcaaGreatDoor
open Go Go.RowKit

set_option maxRecDepth 10000 in
set_option maxHeartbeats 4000000 in
theorem plus_any (x y : Int × Int) (w : World) :
    Calls Tryz.prog 12 #[.agg #[.int .i64 x.1, .int .i64 x.2], .agg #[.int .i64 y.1, .int .i64 y.2]] w fun e w' => e = .returned (pairV (plusE x y).1 (plusE x y).2) ∧ Below w.heap.size w w' := by
  have SX0 := ((Slot2.new w (.int .i64 x.1) (.int .i64 x.2) 23).alloc (.cells #[.int .i64 y.1, .int .i64 y.2] 23)).alloc (.cells #[.int .i64 0, .int .i64 0] 23)
  have SY0 := (Slot2.new (w.alloc (.cells #[.int .i64 x.1, .int .i64 x.2] 23)) (.int .i64 y.1) (.int .i64 y.2) 23).alloc (.cells #[.int .i64 0, .int .i64 0] 23)
  have SR0 := Slot2.new ((w.alloc (.cells #[.int .i64 x.1, .int .i64 x.2] 23)).alloc (.cells #[.int .i64 y.1, .int .i64 y.2] 23)) (.int .i64 0) (.int .i64 0) 23
  have hW := below_alloc (below_alloc (alloc_below w (.cells #[.int .i64 x.1, .int .i64 x.2] 23)) (.cells #[.int .i64 y.1, .int .i64 y.2] 23)) (.cells #[.int .i64 0, .int .i64 0] 23)
  simp only [World.size_alloc] at SY0 SR0
  go_enter Tryz.func12, Tryz.ntmps12
  have SX1 := SX0
  obtain ⟨_, a0, a1, _, _⟩ := SX1
  go_wp2_with fail
  refine (values_any x.1 x.2 _).mono ?_
  rintro e w1 ⟨rfl, hB1⟩
  clear a0 a1
  have SX := SX0.next hB1
  have SY := SY0.next hB1
  have SR := SR0.next hB1
  have hB := below_next hW hB1
  clear SX0 SY0 SR0 hW hB1
  cases hx : inB x.1 x.2 (-3000000000) 3000000000
  · have E := Lib.hid (plusE_x (y := y) hx)
    clear hx SX SY
    have SF := SR.both (.int .i64 0) (.int .i64 0)
    have HB := Lib.hid (below_both hB (by omega : w.heap.size ≤ w.heap.size + 1 + 1) (.int .i64 0) (.int .i64 0))
    obtain ⟨liesR, r0, r1, rf0, rf1⟩ := SR
    clear hB
    go_wp2_with fail
    refine bodyPost_ret (v := pairV (0, 0) 7) (by simp [results, Tryz.results12, go_sem, SF.cell0, SF.cell1]; exact rfl) rfl ⟨by rw [E.out], HB.out⟩
  · have Hx := Lib.hid hx
    clear hx
    have SY1 := SY
    obtain ⟨_, a0, a1, _, _⟩ := SY1
    go_wp2_with fail
    refine (values_any y.1 y.2 _).mono ?_
    rintro e w2 ⟨rfl, hB2⟩
    clear a0 a1
    have SX2 := SX.next hB2
    have SY2 := SY.next hB2
    have SR2 := SR.next hB2
    have hB' := below_next hB hB2
    clear SX SY SR hB hB2
    cases hy : inB y.1 y.2 (-3000000000) 3000000000
    · have E := Lib.hid (plusE_y (x := x) hy)
      clear hy SX2 SY2 Hx
      have SF := SR2.both (.int .i64 0) (.int .i64 0)
      have HB := Lib.hid (below_both hB' (by omega : w.heap.size ≤ w.heap.size + 1 + 1) (.int .i64 0) (.int .i64 0))
      obtain ⟨liesR, r0, r1, rf0, rf1⟩ := SR2
      clear hB'
      go_wp2_with fail
      refine bodyPost_ret (v := pairV (0, 0) 7) (by simp [results, Tryz.results12, go_sem, SF.cell0, SF.cell1]; exact rfl) rfl ⟨by rw [E.out], HB.out⟩
    · have Hy := Lib.hid hy
      clear hy
      have E := Lib.hid (plusE_ok Hx.out Hy.out)
      have SR3 := Lib.hid SR2
      obtain ⟨i1, i2, i3⟩ := inB_yes Hx.out
      obtain ⟨j1, j2, j3⟩ := inB_yes Hy.out
      have HB2 := Lib.hid hB'
      have SX3 := SX2
      obtain ⟨_, a0, a1, _, _⟩ := SX3
      have SY3 := SY2
      obtain ⟨_, b0, b1, _, _⟩ := SY3
      clear SX2 SY2 SR2 hB' Hx Hy
      go_wp2_with fail
      refine (checked_any (x.1 + y.1, x.2 + y.2) _).mono ?_
      rintro e w4 ⟨rfl, hB4⟩
      have SR4 := SR3.out.next hB4
      have hB5 := below_next HB2.out hB4
      clear SR3 HB2 hB4 a0 a1 b0 b1 i1 i2 i3 j1 j2 j3
      generalize hq : checkedE (x.1 + y.1, x.2 + y.2) = q at *
      have E2 := Lib.hid hq
      clear hq
      have SF := SR4.both (.int .i64 q.1.1) (.int .i64 q.1.2)
      have HB := Lib.hid (below_both hB5 (by omega : w.heap.size ≤ w.heap.size + 1 + 1) (.int .i64 q.1.1) (.int .i64 q.1.2))
      obtain ⟨liesR, r0, r1, rf0, rf1⟩ := SR4
      clear hB5
      unfold pairV
      go_wp2_with fail
      refine bodyPost_ret (v := pairV q.1 q.2) (by simp [results, Tryz.results12, go_sem, SF.cell0, SF.cell1]; exact rfl) rfl ⟨by rw [E.out], HB.out⟩
end Go.Proofs.YtnjedigjabijcaaGreatDoor
