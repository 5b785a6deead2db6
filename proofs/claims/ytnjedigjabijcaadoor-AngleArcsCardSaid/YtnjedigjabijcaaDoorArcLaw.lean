import Derived.Test.YtnjedigjabijcaaDoorBack
import Derived.Test.YtnjedigjabijcaaDoorArcRef
namespace Go.Proofs.YtnjedigjabijcaaDoor
open Go Go.RowKit

theorem run_eqlA (a b : Int) (w : World) : (binOp .eql 23 (.agg #[.int .i64 a, .int .i64 b]) (.agg #[.int .i64 a, .int .i64 b])).run Tryd.prog w = .ok (.bool true) w := by
  rw [run_eql_struct, run_sameE]
  simp

set_option maxRecDepth 100000 in
set_option maxHeartbeats 8000000 in
theorem law_arcs_of (y : Int × Int) (p r t : (Int × Int) × Int)
    (c0 : (∀ W, Calls Tryd.prog 23 #[.agg #[.int .i64 y.1, .int .i64 y.2]] W fun e w' => e = .returned (pairV p.1 p.2) ∧ Below W.heap.size W w'))
    (c1 : (∀ W, Calls Tryd.prog 24 #[.agg #[.int .i64 y.1, .int .i64 y.2]] W fun e w' => e = .returned (pairV p.1 p.2) ∧ Below W.heap.size W w'))
    (c2 : (∀ W, Calls Tryd.prog 25 #[.agg #[.int .i64 y.1, .int .i64 y.2]] W fun e w' => e = .returned (pairV r.1 r.2) ∧ Below W.heap.size W w'))
    (c3 : (∀ W, Calls Tryd.prog 26 #[.agg #[.int .i64 y.1, .int .i64 y.2]] W fun e w' => e = .returned (pairV r.1 r.2) ∧ Below W.heap.size W w'))
    (c4 : (∀ W, Calls Tryd.prog 27 #[.agg #[.int .i64 y.1, .int .i64 y.2]] W fun e w' => e = .returned (pairV t.1 t.2) ∧ Below W.heap.size W w'))
    (c5 : (∀ W, Calls Tryd.prog 28 #[.agg #[.int .i64 y.1, .int .i64 y.2]] W fun e w' => e = .returned (pairV t.1 t.2) ∧ Below W.heap.size W w'))
    (w : World) (hm : MarkTab w) (hp : PowTab w) :
    Calls Tryd.prog 4 #[.agg #[.int .i64 y.1, .int .i64 y.2]] w fun e w' => e = .returned (.bool true) ∧ Below w.heap.size w w' := by
  have HM := Lib.hid hm
  have HP := Lib.hid hp
  have C0 := Lib.hid c0
  have C1 := Lib.hid c1
  have C2 := Lib.hid c2
  have C3 := Lib.hid c3
  have C4 := Lib.hid c4
  have C5 := Lib.hid c5
  clear hm hp c0 c1 c2 c3 c4 c5
  have SY := Slot2.new w (.int .i64 y.1) (.int .i64 y.2) 23
  have k := alloc_below w (.cells #[.int .i64 y.1, .int .i64 y.2] 23)
  go_enter Tryd.func4, Tryd.ntmps4
  have SY' := SY
  obtain ⟨_, a0, a1, _, _⟩ := SY'
  go_wp2_with fail
  refine (C0.out _).mono ?_
  unfold pairV
  rintro e w1 ⟨rfl, hB⟩
  clear a0 a1
  replace SY := (SY.next hB).alloc (.cells #[.int .i64 p.1.1, .int .i64 p.1.2] 23)
  have B0 := Slot2.new w1 (.int .i64 p.1.1) (.int .i64 p.1.2) 23
  have l0 : w.heap.size + 1 ≤ w1.heap.size := by have := hB.size; simp only [World.size_alloc] at this; omega
  replace k := below_alloc (below_next k hB) (.cells #[.int .i64 p.1.1, .int .i64 p.1.2] 23)
  clear hB C0
  have SY' := SY
  obtain ⟨_, a0, a1, _, _⟩ := SY'
  go_wp2_with fail
  refine (C1.out _).mono ?_
  unfold pairV
  rintro e w2 ⟨rfl, hB⟩
  clear a0 a1
  replace SY := (SY.next hB).alloc (.cells #[.int .i64 p.1.1, .int .i64 p.1.2] 23)
  replace B0 := (B0.next hB).alloc (.cells #[.int .i64 p.1.1, .int .i64 p.1.2] 23)
  have B1 := Slot2.new w2 (.int .i64 p.1.1) (.int .i64 p.1.2) 23
  have g1 : w1.heap.size < w2.heap.size := by have := hB.size; simp only [World.size_alloc] at this; omega
  have l1 : w.heap.size ≤ w2.heap.size := (below_next k hB).size
  replace k := below_alloc (below_next k hB) (.cells #[.int .i64 p.1.1, .int .i64 p.1.2] 23)
  clear hB C1
  have SY' := SY
  obtain ⟨_, a0, a1, _, _⟩ := SY'
  go_wp2_with fail
  refine (C2.out _).mono ?_
  unfold pairV
  rintro e w3 ⟨rfl, hB⟩
  clear a0 a1
  replace SY := (SY.next hB).alloc (.cells #[.int .i64 r.1.1, .int .i64 r.1.2] 23)
  replace B0 := (B0.next hB).alloc (.cells #[.int .i64 r.1.1, .int .i64 r.1.2] 23)
  replace B1 := (B1.next hB).alloc (.cells #[.int .i64 r.1.1, .int .i64 r.1.2] 23)
  have B2 := Slot2.new w3 (.int .i64 r.1.1) (.int .i64 r.1.2) 23
  have g2 : w2.heap.size < w3.heap.size := by have := hB.size; simp only [World.size_alloc] at this; omega
  have l2 : w.heap.size ≤ w3.heap.size := (below_next k hB).size
  replace k := below_alloc (below_next k hB) (.cells #[.int .i64 r.1.1, .int .i64 r.1.2] 23)
  clear hB C2
  have SY' := SY
  obtain ⟨_, a0, a1, _, _⟩ := SY'
  go_wp2_with fail
  refine (C3.out _).mono ?_
  unfold pairV
  rintro e w4 ⟨rfl, hB⟩
  clear a0 a1
  replace SY := (SY.next hB).alloc (.cells #[.int .i64 r.1.1, .int .i64 r.1.2] 23)
  replace B0 := (B0.next hB).alloc (.cells #[.int .i64 r.1.1, .int .i64 r.1.2] 23)
  replace B1 := (B1.next hB).alloc (.cells #[.int .i64 r.1.1, .int .i64 r.1.2] 23)
  replace B2 := (B2.next hB).alloc (.cells #[.int .i64 r.1.1, .int .i64 r.1.2] 23)
  have B3 := Slot2.new w4 (.int .i64 r.1.1) (.int .i64 r.1.2) 23
  have g3 : w3.heap.size < w4.heap.size := by have := hB.size; simp only [World.size_alloc] at this; omega
  have l3 : w.heap.size ≤ w4.heap.size := (below_next k hB).size
  replace k := below_alloc (below_next k hB) (.cells #[.int .i64 r.1.1, .int .i64 r.1.2] 23)
  clear hB C3
  have hn1 := fun w => run_neqE p.1.1 p.1.2 w
  have hn2 := fun w => run_neqE r.1.1 r.1.2 w
  have T0 := B0
  obtain ⟨_, x0, y0, m0, n0⟩ := T0
  have T1 := B1
  obtain ⟨_, x1, y1, m1, n1⟩ := T1
  have T2 := B2
  obtain ⟨_, x2, y2, m2, n2⟩ := T2
  have T3 := B3
  obtain ⟨_, x3, y3, m3, n3⟩ := T3
  have SY' := SY
  obtain ⟨_, a0, a1, _, _⟩ := SY'
  go_wp2_with fail
  refine (C4.out _).mono ?_
  unfold pairV
  rintro e w5 ⟨rfl, hB⟩
  clear a0 a1 hn1 hn2 x0 y0 m0 n0 x1 y1 m1 n1 x2 y2 m2 n2 x3 y3 m3 n3
  replace SY := (SY.next hB).apart (c := w1.heap.size) (by omega) (.int .i64 t.1.1) (.int .i64 t.1.2)
  have S0 := B0.next hB
  replace B0 := S0.both (.int .i64 t.1.1) (.int .i64 t.1.2)
  replace B1 := (B1.next hB).apart (c := w1.heap.size) (by omega) (.int .i64 t.1.1) (.int .i64 t.1.2)
  replace B2 := (B2.next hB).apart (c := w1.heap.size) (by omega) (.int .i64 t.1.1) (.int .i64 t.1.2)
  replace B3 := (B3.next hB).apart (c := w1.heap.size) (by omega) (.int .i64 t.1.1) (.int .i64 t.1.2)
  replace k := below_both (below_next k hB) (b := w1.heap.size) (by omega) (.int .i64 t.1.1) (.int .i64 t.1.2)
  clear hB C4
  obtain ⟨_, x0, y0, m0, n0⟩ := S0
  have SY' := SY
  obtain ⟨_, a0, a1, _, _⟩ := SY'
  go_wp2_with fail
  refine (C5.out _).mono ?_
  unfold pairV
  rintro e w6 ⟨rfl, hB⟩
  clear a0 a1 x0 y0 m0 n0
  replace SY := (SY.next hB).apart (c := w2.heap.size) (by omega) (.int .i64 t.1.1) (.int .i64 t.1.2)
  replace B0 := (B0.next hB).apart (c := w2.heap.size) (by omega) (.int .i64 t.1.1) (.int .i64 t.1.2)
  have S1 := B1.next hB
  replace B1 := S1.both (.int .i64 t.1.1) (.int .i64 t.1.2)
  replace B2 := (B2.next hB).apart (c := w2.heap.size) (by omega) (.int .i64 t.1.1) (.int .i64 t.1.2)
  replace B3 := (B3.next hB).apart (c := w2.heap.size) (by omega) (.int .i64 t.1.1) (.int .i64 t.1.2)
  replace k := below_both (below_next k hB) (b := w2.heap.size) (by omega) (.int .i64 t.1.1) (.int .i64 t.1.2)
  clear hB C5
  obtain ⟨_, x1, y1, m1, n1⟩ := S1
  have hn1 := fun w => run_eqlA t.1.1 t.1.2 w
  have hk := Lib.hid k
  clear k SY
  obtain ⟨_, p0, p1, _, _⟩ := B0
  obtain ⟨_, p2, p3, _, _⟩ := B1
  obtain ⟨_, p4, p5, _, _⟩ := B2
  obtain ⟨_, p6, p7, _, _⟩ := B3
  go_wp2_with fail
  refine (awake_any _ (HM.out.below hk.out) (HP.out.below hk.out)).mono ?_
  rintro e w9 ⟨rfl, hB⟩
  have HB := Lib.hid (below_next hk.out hB)
  clear hB
  go_wp2_with fail
  go_ret
  exact ⟨rfl, HB.out⟩
theorem law_arcs (y : Int × Int) (w : World) (hm : MarkTab w) (hp : PowTab w) :
    Calls Tryd.prog 4 #[.agg #[.int .i64 y.1, .int .i64 y.2]] w fun e w' => e = .returned (.bool true) ∧ Below w.heap.size w w' :=
  law_arcs_of y (arccosE y.1 y.2) (arcsinE y.1 y.2) (rootE y.1 y.2) (arccos_any y.1 y.2) (rArccos_any y.1 y.2) (arcsin_any y.1 y.2) (rArcsin_any y.1 y.2) (Root_any y.1 y.2) (rRoot_any y.1 y.2) w hm hp
end Go.Proofs.YtnjedigjabijcaaDoor
