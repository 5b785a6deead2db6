import Derived.Test.YtnjedigjabijcaaGreatDoorPlus
import Derived.Test.YtnjedigjabijcaaGreatDoorRead4
import Derived.Test.YtnjedigjabijcaaGreatDoorRoots
import Derived.Test.YtnjedigjabijcaaGreatDoorArc2
import Derived.Test.YtnjedigjabijcaaGreatDoorOver
import Derived.Test.YtnjedigjabijcaaGreatDoorBack
namespace Go.Proofs.YtnjedigjabijcaaGreatDoor
open Go Go.RowKit

theorem known_k1 : sinOfE 30000000 30000000 = ((50000000, 50000000), 0) := by decide +kernel
theorem known_k2 : sinOfE (-90000000) (-90000000) = ((-100000000, -100000000), 0) := by decide +kernel
theorem known_k3 : cosOfE 60000000 60000000 = ((50000000, 50000000), 0) := by decide +kernel
theorem known_k4 : cosOfE 1000000 1000000 = ((99984769, 99984770), 0) := by decide +kernel
theorem known_k5 : cosOfE 450000000 450000000 = ((0, 0), 0) := by decide +kernel
theorem known_k6 : sinOfE 45000000 135000000 = ((70710678, 100000000), 0) := by decide +kernel
theorem known_k7 : sinOfE 0 30000000 = ((0, 50000000), 0) := by decide +kernel
theorem known_k8 : arcsinE 70710678 70710678 = ((44999999, 45000000), 0) := by decide +kernel
theorem known_k9 : rootE 200000000 200000000 = ((141421356, 141421357), 0) := by decide +kernel
theorem known_k10 : rootE 0 225000000 = ((0, 150000000), 0) := by decide +kernel
theorem known_k11 : timesE (3, 3) (50000000, 50000000) = ((1, 2), 0) := by decide +kernel
theorem known_k12 : timesE (-100000000, 200000000) (300000000, 400000000) = ((-400000000, 800000000), 0) := by decide +kernel
theorem known_k13 : overE (100000000, 100000000) (300000000, 300000000) = ((33333333, 33333334), 0) := by decide +kernel
theorem known_k14 : overE (100000000, 100000000) (-100000000, 100000000) = ((0, 0), 8) := by decide +kernel
theorem known_k15 : plusE (2000000000, 2000000000) (2000000000, 2000000000) = ((0, 0), 7) := by decide +kernel
theorem known_k16 : readE [48, 48, 55, 46, 53, 48, 83] = (-7500000, 0, 0) := by decide +kernel
theorem known_k17 : readE [57, 48, 46, 48, 48, 48, 48, 48, 49, 78] = (0, 0, 7) := by decide +kernel
theorem known_k18 : readE [53, 32, 78] = (0, 0, 6) := by decide +kernel
theorem known_k19 : writeE (-180000000) 1 = ([49, 56, 48, 87], 0) := by
  have e1 : Lib.itoa 180 = [49, 56, 48] := by simp [Lib.itoa, Lib.decDigits]
  unfold writeE sizeL
  simp only [show (-(-180000000) : Int) / 1000000 = 180 from by decide, e1]
  decide +kernel
theorem run_eqlE (a b : Int) (w : World) : (binOp .eql 23 (.agg #[.int .i64 a, .int .i64 b]) (.agg #[.int .i64 a, .int .i64 b])).run Tryz.prog w = .ok (.bool true) w := by
  rw [run_eql_struct, run_sameE]
  simp

/-- Four enclosures in four blocks. -/
def Quad (w V : World) (c1 c2 c3 c4 : Nat) (a b c d : Int × Int) : Prop :=
  Below w.heap.size w V ∧ Slot2 V c1 (.int .i64 a.1) (.int .i64 a.2) ∧ Slot2 V c2 (.int .i64 b.1) (.int .i64 b.2) ∧ Slot2 V c3 (.int .i64 c.1) (.int .i64 c.2) ∧ Slot2 V c4 (.int .i64 d.1) (.int .i64 d.2)
theorem Quad.next {w V V' : World} {c1 c2 c3 c4 : Nat} {a b c d : Int × Int} (h : Quad w V c1 c2 c3 c4 a b c d) (hB : Below V.heap.size V V') : Quad w V' c1 c2 c3 c4 a b c d :=
  ⟨below_next h.1 hB, h.2.1.next hB, h.2.2.1.next hB, h.2.2.2.1.next hB, h.2.2.2.2.next hB⟩
theorem Quad.drew {w V : World} {c1 c2 c3 c4 : Nat} {a b c d : Int × Int} (h : Quad w V.drew c1 c2 c3 c4 a b c d) : Quad w V c1 c2 c3 c4 a b c d :=
  ⟨⟨h.1.os, h.1.tape, h.1.output, h.1.size, h.1.block⟩, ⟨h.2.1.1, h.2.1.2, h.2.1.3, h.2.1.4, h.2.1.5⟩, ⟨h.2.2.1.1, h.2.2.1.2, h.2.2.1.3, h.2.2.1.4, h.2.2.1.5⟩, ⟨h.2.2.2.1.1, h.2.2.2.1.2, h.2.2.2.1.3, h.2.2.2.1.4, h.2.2.2.1.5⟩, ⟨h.2.2.2.2.1, h.2.2.2.2.2, h.2.2.2.2.3, h.2.2.2.2.4, h.2.2.2.2.5⟩⟩
def Ord4 (w : World) (c1 c2 c3 c4 : Nat) : Prop := w.heap.size ≤ c1 ∧ c1 < c2 ∧ c2 < c3 ∧ c3 < c4
theorem Quad.put1 {w V : World} {c1 c2 c3 c4 : Nat} {a b c d : Int × Int} (h : Quad w V c1 c2 c3 c4 a b c d) (o : Ord4 w c1 c2 c3 c4) (q : Int × Int) : Quad w ((V.setCell ⟨c1, 0, none⟩ (.int .i64 q.1)).setCell ⟨c1, 1, none⟩ (.int .i64 q.2)) c1 c2 c3 c4 q b c d := by
  obtain ⟨o1, o2, o3, o4⟩ := o
  exact ⟨below_both h.1 (by omega) _ _, h.2.1.both _ _, h.2.2.1.apart (by omega) _ _, h.2.2.2.1.apart (by omega) _ _, h.2.2.2.2.apart (by omega) _ _⟩
theorem Quad.put2 {w V : World} {c1 c2 c3 c4 : Nat} {a b c d : Int × Int} (h : Quad w V c1 c2 c3 c4 a b c d) (o : Ord4 w c1 c2 c3 c4) (q : Int × Int) : Quad w ((V.setCell ⟨c2, 0, none⟩ (.int .i64 q.1)).setCell ⟨c2, 1, none⟩ (.int .i64 q.2)) c1 c2 c3 c4 a q c d := by
  obtain ⟨o1, o2, o3, o4⟩ := o
  exact ⟨below_both h.1 (by omega) _ _, h.2.1.apart (by omega) _ _, h.2.2.1.both _ _, h.2.2.2.1.apart (by omega) _ _, h.2.2.2.2.apart (by omega) _ _⟩
theorem Quad.put3 {w V : World} {c1 c2 c3 c4 : Nat} {a b c d : Int × Int} (h : Quad w V c1 c2 c3 c4 a b c d) (o : Ord4 w c1 c2 c3 c4) (q : Int × Int) : Quad w ((V.setCell ⟨c3, 0, none⟩ (.int .i64 q.1)).setCell ⟨c3, 1, none⟩ (.int .i64 q.2)) c1 c2 c3 c4 a b q d := by
  obtain ⟨o1, o2, o3, o4⟩ := o
  exact ⟨below_both h.1 (by omega) _ _, h.2.1.apart (by omega) _ _, h.2.2.1.apart (by omega) _ _, h.2.2.2.1.both _ _, h.2.2.2.2.apart (by omega) _ _⟩
theorem Quad.put4 {w V : World} {c1 c2 c3 c4 : Nat} {a b c d : Int × Int} (h : Quad w V c1 c2 c3 c4 a b c d) (o : Ord4 w c1 c2 c3 c4) (q : Int × Int) : Quad w ((V.setCell ⟨c4, 0, none⟩ (.int .i64 q.1)).setCell ⟨c4, 1, none⟩ (.int .i64 q.2)) c1 c2 c3 c4 a b c q := by
  obtain ⟨o1, o2, o3, o4⟩ := o
  exact ⟨below_both h.1 (by omega) _ _, h.2.1.apart (by omega) _ _, h.2.2.1.apart (by omega) _ _, h.2.2.2.1.apart (by omega) _ _, h.2.2.2.2.both _ _⟩
theorem quad_four {w w1 w2 w3 w4 : World} {a b c d : Int × Int} (T : TypeId) (h1 : Below w.heap.size w w1) (h2 : Below (w1.alloc (.cells #[.int .i64 a.1, .int .i64 a.2] T)).heap.size (w1.alloc (.cells #[.int .i64 a.1, .int .i64 a.2] T)) w2)
    (h3 : Below (w2.alloc (.cells #[.int .i64 b.1, .int .i64 b.2] T)).heap.size (w2.alloc (.cells #[.int .i64 b.1, .int .i64 b.2] T)) w3) (h4 : Below (w3.alloc (.cells #[.int .i64 c.1, .int .i64 c.2] T)).heap.size (w3.alloc (.cells #[.int .i64 c.1, .int .i64 c.2] T)) w4) :
    Quad w (w4.alloc (.cells #[.int .i64 d.1, .int .i64 d.2] T)) w1.heap.size w2.heap.size w3.heap.size w4.heap.size a b c d ∧ Ord4 w w1.heap.size w2.heap.size w3.heap.size w4.heap.size := by
  have z1 := h1.size
  have z2 := h2.size
  have z3 := h3.size
  have z4 := h4.size
  simp only [World.size_alloc] at z2 z3 z4
  exact ⟨⟨below_alloc (below_next (below_alloc (below_next (below_alloc (below_next (below_alloc h1 _) h2) _) h3) _) h4) _, (((((Slot2.new w1 _ _ T).next h2).alloc _).next h3).alloc _ |>.next h4).alloc _, (((Slot2.new w2 _ _ T).next h3).alloc _ |>.next h4).alloc _, ((Slot2.new w3 _ _ T).next h4).alloc _, Slot2.new w4 _ _ T⟩, z1, z2, z3, z4⟩

set_option maxRecDepth 100000 in
set_option maxHeartbeats 8000000 in
theorem law_known (w : World) (hm : MarkTab w) (hp : PowTab w) (hx : MaxTab w) :
    Calls Tryz.prog 3 #[] w fun e w' => e = .returned (.bool true) ∧ Below w.heap.size w w' := by
  have HM := Lib.hid hm
  have HP := Lib.hid hp
  have HX := Lib.hid hx
  clear hm hp hx
  have K1 := Lib.hid known_k1
  have K2 := Lib.hid known_k2
  have K3 := Lib.hid known_k3
  have K4 := Lib.hid known_k4
  have K5 := Lib.hid known_k5
  have K6 := Lib.hid known_k6
  have K7 := Lib.hid known_k7
  have K8 := Lib.hid known_k8
  have K9 := Lib.hid known_k9
  have K10 := Lib.hid known_k10
  have K11 := Lib.hid known_k11
  have K12 := Lib.hid known_k12
  have K13 := Lib.hid known_k13
  have K14 := Lib.hid known_k14
  have K15 := Lib.hid known_k15
  have K16 := Lib.hid known_k16
  have K17 := Lib.hid known_k17
  have K18 := Lib.hid known_k18
  have K19 := Lib.hid known_k19
  go_enter Tryz.func3, Tryz.ntmps3
  go_wp2_with fail
  refine (sin_any 30000000 _).mono ?_
  rw [K1.out]
  unfold pairV
  rintro e w1 ⟨rfl, hB1⟩
  simp only
  go_wp2_with fail
  refine (sin_any (-90000000) _).mono ?_
  rw [K2.out]
  unfold pairV
  rintro e w2 ⟨rfl, hB2⟩
  simp only
  go_wp2_with fail
  refine (cos_any 60000000 _).mono ?_
  rw [K3.out]
  unfold pairV
  rintro e w3 ⟨rfl, hB3⟩
  simp only
  go_wp2_with fail
  refine (cos_any 1000000 _).mono ?_
  rw [K4.out]
  unfold pairV
  rintro e w4 ⟨rfl, hB4⟩
  simp only
  have QO := quad_four (a := (50000000, 50000000)) (b := (-100000000, -100000000)) (c := (50000000, 50000000)) (d := (99984769, 99984770)) 23 hB1 hB2 hB3 hB4
  have Q0 := Lib.hid QO.1
  have OO := Lib.hid QO.2
  clear QO hB1 hB2 hB3 hB4 K1 K2 K3 K4
  generalize w1.heap.size = c1 at *
  generalize w2.heap.size = c2 at *
  generalize w3.heap.size = c3 at *
  go_upto_region 5 with (fail)
  generalize w4.alloc (.cells #[.int .i64 99984769, .int .i64 99984770] 23) = V at *
  generalize w4.heap.size = c4 at *
  go_cut [68] (fun u wx => u = .bool false ∧ Quad w wx c1 c2 c3 c4 (50000000, 50000000) (-100000000, -100000000) (50000000, 50000000) (99984769, 99984770))
  case first =>
    as_aux_lemma =>
      have n0 := fun w => run_neqE 50000000 50000000 w
      have n1 := fun w => run_neqE (-100000000) (-100000000) w
      have n2 := fun w => run_neqE 99984769 99984770 w
      obtain ⟨_, ⟨_, p0, p1, _, _⟩, ⟨_, p2, p3, _, _⟩, ⟨_, p4, p5, _, _⟩, ⟨_, p6, p7, _, _⟩⟩ := Q0.out
      go_region_held3 (fun w' => w'.cell? ⟨c1, 0, none⟩ = some (.int .i64 50000000) ∧ w'.cell? ⟨c1, 1, none⟩ = some (.int .i64 50000000) ∧ w'.cell? ⟨c2, 0, none⟩ = some (.int .i64 (-100000000)) ∧ w'.cell? ⟨c2, 1, none⟩ = some (.int .i64 (-100000000)) ∧ w'.cell? ⟨c3, 0, none⟩ = some (.int .i64 50000000) ∧ w'.cell? ⟨c3, 1, none⟩ = some (.int .i64 50000000) ∧ w'.cell? ⟨c4, 0, none⟩ = some (.int .i64 99984769) ∧ w'.cell? ⟨c4, 1, none⟩ = some (.int .i64 99984770))
        ((go_split_ands; (repeat' apply And.intro) <;> (first | assumption | (go_keep; done))))
        (first
          | (go_at_call 6; refine (x_any _ _ _).mono ?_; rintro e wN ⟨rfl, hN⟩; first
              | (have Q4 := Lib.hid (Q3.out.next (by first | exact hN | exact undrew hN)); obtain ⟨_, ⟨_, p0, p1, _, _⟩, ⟨_, p2, p3, _, _⟩, ⟨_, p4, p5, _, _⟩, ⟨_, p6, p7, _, _⟩⟩ := Q4.out)
              | (have Q3 := Lib.hid (Q2.out.next (by first | exact hN | exact undrew hN)); obtain ⟨_, ⟨_, p0, p1, _, _⟩, ⟨_, p2, p3, _, _⟩, ⟨_, p4, p5, _, _⟩, ⟨_, p6, p7, _, _⟩⟩ := Q3.out)
              | (have Q2 := Lib.hid (Q1.out.next (by first | exact hN | exact undrew hN)); obtain ⟨_, ⟨_, p0, p1, _, _⟩, ⟨_, p2, p3, _, _⟩, ⟨_, p4, p5, _, _⟩, ⟨_, p6, p7, _, _⟩⟩ := Q2.out)
              | (have Q1 := Lib.hid (Q0.out.next (by first | exact hN | exact undrew hN)); obtain ⟨_, ⟨_, p0, p1, _, _⟩, ⟨_, p2, p3, _, _⟩, ⟨_, p4, p5, _, _⟩, ⟨_, p6, p7, _, _⟩⟩ := Q1.out)))
      clear n0 n1 n2
      go_wp2_with fail
      go_meet
      exact ⟨rfl, by first | exact Q3.out | exact Q3.out.drew⟩
  case rest =>
    as_aux_lemma =>
      obtain ⟨rfl, q0⟩ := hcut
      clear Q0
      have Q0 := Lib.hid q0
      clear q0
      try clear V
      go_wp2_with fail
      refine (cos_any 450000000 _).mono ?_
      rw [K5.out]
      unfold pairV
      rintro e wx ⟨rfl, hB⟩
      simp only
      replace Q0 := Lib.hid (Q0.out.next (by first | exact hB | exact undrew hB))
      clear hB K5
      obtain ⟨_, ⟨_, p0, p1, e0, e1⟩, ⟨_, p2, p3, e2, e3⟩, ⟨_, p4, p5, e4, e5⟩, ⟨_, p6, p7, e6, e7⟩⟩ := Q0.out
      replace Q0 := Lib.hid (Q0.out.put1 OO.out (0, 0))
      clear p2 p3 e2 e3 p4 p5 e4 e5 p6 p7 e6 e7
      go_wp2_with fail
      clear p0 p1 e0 e1
      refine (x_any 45000000 135000000 _).mono ?_
      rintro e wx ⟨rfl, hB⟩
      replace Q0 := Lib.hid (Q0.out.next (by first | exact hB | exact undrew hB))
      clear hB
      go_wp2_with fail
      refine (sinOf_any 45000000 135000000 _).mono ?_
      rw [K6.out]
      unfold pairV
      rintro e wx ⟨rfl, hB⟩
      simp only
      replace Q0 := Lib.hid (Q0.out.next (by first | exact hB | exact undrew hB))
      clear hB K6
      obtain ⟨_, ⟨_, p0, p1, e0, e1⟩, ⟨_, p2, p3, e2, e3⟩, ⟨_, p4, p5, e4, e5⟩, ⟨_, p6, p7, e6, e7⟩⟩ := Q0.out
      replace Q0 := Lib.hid (Q0.out.put2 OO.out (70710678, 100000000))
      clear p0 p1 e0 e1 p4 p5 e4 e5 p6 p7 e6 e7
      go_wp2_with fail
      clear p2 p3 e2 e3
      refine (x_any 0 30000000 _).mono ?_
      rintro e wx ⟨rfl, hB⟩
      replace Q0 := Lib.hid (Q0.out.next (by first | exact hB | exact undrew hB))
      clear hB
      go_wp2_with fail
      refine (sinOf_any 0 30000000 _).mono ?_
      rw [K7.out]
      unfold pairV
      rintro e wx ⟨rfl, hB⟩
      simp only
      replace Q0 := Lib.hid (Q0.out.next (by first | exact hB | exact undrew hB))
      clear hB K7
      obtain ⟨_, ⟨_, p0, p1, e0, e1⟩, ⟨_, p2, p3, e2, e3⟩, ⟨_, p4, p5, e4, e5⟩, ⟨_, p6, p7, e6, e7⟩⟩ := Q0.out
      replace Q0 := Lib.hid (Q0.out.put3 OO.out (0, 50000000))
      clear p0 p1 e0 e1 p2 p3 e2 e3 p6 p7 e6 e7
      go_wp2_with fail
      clear p4 p5 e4 e5
      refine (x_any 70710678 70710678 _).mono ?_
      rintro e wx ⟨rfl, hB⟩
      replace Q0 := Lib.hid (Q0.out.next (by first | exact hB | exact undrew hB))
      clear hB
      go_wp2_with fail
      refine (arcsin_any 70710678 70710678 _).mono ?_
      rw [K8.out]
      unfold pairV
      rintro e wx ⟨rfl, hB⟩
      simp only
      replace Q0 := Lib.hid (Q0.out.next (by first | exact hB | exact undrew hB))
      clear hB K8
      obtain ⟨_, ⟨_, p0, p1, e0, e1⟩, ⟨_, p2, p3, e2, e3⟩, ⟨_, p4, p5, e4, e5⟩, ⟨_, p6, p7, e6, e7⟩⟩ := Q0.out
      replace Q0 := Lib.hid (Q0.out.put4 OO.out (44999999, 45000000))
      clear p0 p1 e0 e1 p2 p3 e2 e3 p4 p5 e4 e5
      go_upto_region 11 with (fail)
      clear p6 p7 e6 e7
      go_cut [121] (fun u wx => u = .bool false ∧ Quad w wx c1 c2 c3 c4 (0, 0) (70710678, 100000000) (0, 50000000) (44999999, 45000000))
      case first =>
        as_aux_lemma =>
          have n0 := fun w => run_neqE 0 0 w
          have n1 := fun w => run_neqE 70710678 100000000 w
          have n2 := fun w => run_neqE 0 50000000 w
          have n3 := fun w => run_neqE 44999999 45000000 w
          obtain ⟨_, ⟨_, p0, p1, _, _⟩, ⟨_, p2, p3, _, _⟩, ⟨_, p4, p5, _, _⟩, ⟨_, p6, p7, _, _⟩⟩ := Q0.out
          go_region_held3 (fun w' => w'.cell? ⟨c1, 0, none⟩ = some (.int .i64 0) ∧ w'.cell? ⟨c1, 1, none⟩ = some (.int .i64 0) ∧ w'.cell? ⟨c2, 0, none⟩ = some (.int .i64 70710678) ∧ w'.cell? ⟨c2, 1, none⟩ = some (.int .i64 100000000) ∧ w'.cell? ⟨c3, 0, none⟩ = some (.int .i64 0) ∧ w'.cell? ⟨c3, 1, none⟩ = some (.int .i64 50000000) ∧ w'.cell? ⟨c4, 0, none⟩ = some (.int .i64 44999999) ∧ w'.cell? ⟨c4, 1, none⟩ = some (.int .i64 45000000))
            ((go_split_ands; (repeat' apply And.intro) <;> (first | assumption | (go_keep; done))))
            (first
              | (go_at_call 6; refine (x_any _ _ _).mono ?_; rintro e wN ⟨rfl, hN⟩; first
                  | (have Q4 := Lib.hid (Q3.out.next (by first | exact hN | exact undrew hN)); obtain ⟨_, ⟨_, p0, p1, _, _⟩, ⟨_, p2, p3, _, _⟩, ⟨_, p4, p5, _, _⟩, ⟨_, p6, p7, _, _⟩⟩ := Q4.out)
                  | (have Q3 := Lib.hid (Q2.out.next (by first | exact hN | exact undrew hN)); obtain ⟨_, ⟨_, p0, p1, _, _⟩, ⟨_, p2, p3, _, _⟩, ⟨_, p4, p5, _, _⟩, ⟨_, p6, p7, _, _⟩⟩ := Q3.out)
                  | (have Q2 := Lib.hid (Q1.out.next (by first | exact hN | exact undrew hN)); obtain ⟨_, ⟨_, p0, p1, _, _⟩, ⟨_, p2, p3, _, _⟩, ⟨_, p4, p5, _, _⟩, ⟨_, p6, p7, _, _⟩⟩ := Q2.out)
                  | (have Q1 := Lib.hid (Q0.out.next (by first | exact hN | exact undrew hN)); obtain ⟨_, ⟨_, p0, p1, _, _⟩, ⟨_, p2, p3, _, _⟩, ⟨_, p4, p5, _, _⟩, ⟨_, p6, p7, _, _⟩⟩ := Q1.out)))
          clear n0 n1 n2 n3
          go_wp2_with fail
          go_meet
          exact ⟨rfl, by first | exact Q4.out | exact Q4.out.drew⟩
      case rest =>
        as_aux_lemma =>
          obtain ⟨rfl, q0⟩ := hcut
          clear Q0
          have Q0 := Lib.hid q0
          clear q0
          go_wp2_with fail
          refine (x_any 200000000 200000000 _).mono ?_
          rintro e wx ⟨rfl, hB⟩
          replace Q0 := Lib.hid (Q0.out.next (by first | exact hB | exact undrew hB))
          clear hB
          go_wp2_with fail
          refine (Root_any 200000000 200000000 _).mono ?_
          rw [K9.out]
          unfold pairV
          rintro e wx ⟨rfl, hB⟩
          simp only
          replace Q0 := Lib.hid (Q0.out.next (by first | exact hB | exact undrew hB))
          clear hB K9
          obtain ⟨_, ⟨_, p0, p1, e0, e1⟩, ⟨_, p2, p3, e2, e3⟩, ⟨_, p4, p5, e4, e5⟩, ⟨_, p6, p7, e6, e7⟩⟩ := Q0.out
          replace Q0 := Lib.hid (Q0.out.put1 OO.out (141421356, 141421357))
          clear p2 p3 e2 e3 p4 p5 e4 e5 p6 p7 e6 e7
          go_wp2_with fail
          clear p0 p1 e0 e1
          refine (x_any 0 225000000 _).mono ?_
          rintro e wx ⟨rfl, hB⟩
          replace Q0 := Lib.hid (Q0.out.next (by first | exact hB | exact undrew hB))
          clear hB
          go_wp2_with fail
          refine (Root_any 0 225000000 _).mono ?_
          rw [K10.out]
          unfold pairV
          rintro e wx ⟨rfl, hB⟩
          simp only
          replace Q0 := Lib.hid (Q0.out.next (by first | exact hB | exact undrew hB))
          clear hB K10
          obtain ⟨_, ⟨_, p0, p1, e0, e1⟩, ⟨_, p2, p3, e2, e3⟩, ⟨_, p4, p5, e4, e5⟩, ⟨_, p6, p7, e6, e7⟩⟩ := Q0.out
          replace Q0 := Lib.hid (Q0.out.put2 OO.out (0, 150000000))
          clear p0 p1 e0 e1 p4 p5 e4 e5 p6 p7 e6 e7
          go_wp2_with fail
          clear p2 p3 e2 e3
          refine (x_any 3 3 _).mono ?_
          rintro e wx ⟨rfl, hB⟩
          replace Q0 := Lib.hid (Q0.out.next (by first | exact hB | exact undrew hB))
          clear hB
          go_wp2_with fail
          refine (x_any 50000000 50000000 _).mono ?_
          rintro e wx ⟨rfl, hB⟩
          replace Q0 := Lib.hid (Q0.out.next (by first | exact hB | exact undrew hB))
          clear hB
          go_wp2_with fail
          refine (times_any (3, 3) (50000000, 50000000) _).mono ?_
          rw [K11.out]
          unfold pairV
          rintro e wx ⟨rfl, hB⟩
          simp only
          replace Q0 := Lib.hid (Q0.out.next (by first | exact hB | exact undrew hB))
          clear hB K11
          obtain ⟨_, ⟨_, p0, p1, e0, e1⟩, ⟨_, p2, p3, e2, e3⟩, ⟨_, p4, p5, e4, e5⟩, ⟨_, p6, p7, e6, e7⟩⟩ := Q0.out
          replace Q0 := Lib.hid (Q0.out.put3 OO.out (1, 2))
          clear p0 p1 e0 e1 p2 p3 e2 e3 p6 p7 e6 e7
          go_wp2_with fail
          clear p4 p5 e4 e5
          refine (x_any (-100000000) 200000000 _).mono ?_
          rintro e wx ⟨rfl, hB⟩
          replace Q0 := Lib.hid (Q0.out.next (by first | exact hB | exact undrew hB))
          clear hB
          go_wp2_with fail
          refine (x_any 300000000 400000000 _).mono ?_
          rintro e wx ⟨rfl, hB⟩
          replace Q0 := Lib.hid (Q0.out.next (by first | exact hB | exact undrew hB))
          clear hB
          go_wp2_with fail
          refine (times_any (-100000000, 200000000) (300000000, 400000000) _).mono ?_
          rw [K12.out]
          unfold pairV
          rintro e wx ⟨rfl, hB⟩
          simp only
          replace Q0 := Lib.hid (Q0.out.next (by first | exact hB | exact undrew hB))
          clear hB K12
          obtain ⟨_, ⟨_, p0, p1, e0, e1⟩, ⟨_, p2, p3, e2, e3⟩, ⟨_, p4, p5, e4, e5⟩, ⟨_, p6, p7, e6, e7⟩⟩ := Q0.out
          replace Q0 := Lib.hid (Q0.out.put4 OO.out (-400000000, 800000000))
          clear p0 p1 e0 e1 p2 p3 e2 e3 p4 p5 e4 e5
          go_upto_region 17 with (fail)
          clear p6 p7 e6 e7
          go_cut [177] (fun u wx => u = .bool false ∧ Quad w wx c1 c2 c3 c4 (141421356, 141421357) (0, 150000000) (1, 2) (-400000000, 800000000))
          case first =>
            as_aux_lemma =>
              have n0 := fun w => run_neqE 141421356 141421357 w
              have n1 := fun w => run_neqE 0 150000000 w
              have n2 := fun w => run_neqE 1 2 w
              have n3 := fun w => run_neqE (-400000000) 800000000 w
              obtain ⟨_, ⟨_, p0, p1, _, _⟩, ⟨_, p2, p3, _, _⟩, ⟨_, p4, p5, _, _⟩, ⟨_, p6, p7, _, _⟩⟩ := Q0.out
              go_region_held3 (fun w' => w'.cell? ⟨c1, 0, none⟩ = some (.int .i64 141421356) ∧ w'.cell? ⟨c1, 1, none⟩ = some (.int .i64 141421357) ∧ w'.cell? ⟨c2, 0, none⟩ = some (.int .i64 0) ∧ w'.cell? ⟨c2, 1, none⟩ = some (.int .i64 150000000) ∧ w'.cell? ⟨c3, 0, none⟩ = some (.int .i64 1) ∧ w'.cell? ⟨c3, 1, none⟩ = some (.int .i64 2) ∧ w'.cell? ⟨c4, 0, none⟩ = some (.int .i64 (-400000000)) ∧ w'.cell? ⟨c4, 1, none⟩ = some (.int .i64 800000000))
                ((go_split_ands; (repeat' apply And.intro) <;> (first | assumption | (go_keep; done))))
                (first
                  | (go_at_call 6; refine (x_any _ _ _).mono ?_; rintro e wN ⟨rfl, hN⟩; first
                      | (have Q4 := Lib.hid (Q3.out.next (by first | exact hN | exact undrew hN)); obtain ⟨_, ⟨_, p0, p1, _, _⟩, ⟨_, p2, p3, _, _⟩, ⟨_, p4, p5, _, _⟩, ⟨_, p6, p7, _, _⟩⟩ := Q4.out)
                      | (have Q3 := Lib.hid (Q2.out.next (by first | exact hN | exact undrew hN)); obtain ⟨_, ⟨_, p0, p1, _, _⟩, ⟨_, p2, p3, _, _⟩, ⟨_, p4, p5, _, _⟩, ⟨_, p6, p7, _, _⟩⟩ := Q3.out)
                      | (have Q2 := Lib.hid (Q1.out.next (by first | exact hN | exact undrew hN)); obtain ⟨_, ⟨_, p0, p1, _, _⟩, ⟨_, p2, p3, _, _⟩, ⟨_, p4, p5, _, _⟩, ⟨_, p6, p7, _, _⟩⟩ := Q2.out)
                      | (have Q1 := Lib.hid (Q0.out.next (by first | exact hN | exact undrew hN)); obtain ⟨_, ⟨_, p0, p1, _, _⟩, ⟨_, p2, p3, _, _⟩, ⟨_, p4, p5, _, _⟩, ⟨_, p6, p7, _, _⟩⟩ := Q1.out)))
              clear n0 n1 n2 n3
              go_wp2_with fail
              go_meet
              exact ⟨rfl, by first | exact Q4.out | exact Q4.out.drew⟩
          case rest =>
            as_aux_lemma =>
              obtain ⟨rfl, q0⟩ := hcut
              clear Q0
              have Q0 := Lib.hid q0
              clear q0
              go_wp2_with fail
              refine (x_any 100000000 100000000 _).mono ?_
              rintro e wx ⟨rfl, hB⟩
              replace Q0 := Lib.hid (Q0.out.next (by first | exact hB | exact undrew hB))
              clear hB
              go_wp2_with fail
              refine (x_any 300000000 300000000 _).mono ?_
              rintro e wx ⟨rfl, hB⟩
              replace Q0 := Lib.hid (Q0.out.next (by first | exact hB | exact undrew hB))
              clear hB
              go_wp2_with fail
              refine (over_any (100000000, 100000000) (300000000, 300000000) _).mono ?_
              rw [K13.out]
              unfold pairV
              rintro e wx ⟨rfl, hB⟩
              simp only
              replace Q0 := Lib.hid (Q0.out.next (by first | exact hB | exact undrew hB))
              clear hB K13
              obtain ⟨_, ⟨_, p0, p1, e0, e1⟩, ⟨_, p2, p3, e2, e3⟩, ⟨_, p4, p5, e4, e5⟩, ⟨_, p6, p7, e6, e7⟩⟩ := Q0.out
              replace Q0 := Lib.hid (Q0.out.put1 OO.out (33333333, 33333334))
              clear p2 p3 e2 e3 p4 p5 e4 e5 p6 p7 e6 e7
              go_wp2_with fail
              clear p0 p1 e0 e1
              refine (x_any 100000000 100000000 _).mono ?_
              rintro e wx ⟨rfl, hB⟩
              replace Q0 := Lib.hid (Q0.out.next (by first | exact hB | exact undrew hB))
              clear hB
              go_wp2_with fail
              refine (x_any (-100000000) 100000000 _).mono ?_
              rintro e wx ⟨rfl, hB⟩
              replace Q0 := Lib.hid (Q0.out.next (by first | exact hB | exact undrew hB))
              clear hB
              go_wp2_with fail
              refine (over_any (100000000, 100000000) (-100000000, 100000000) _).mono ?_
              rw [K14.out]
              unfold pairV
              rintro e wx ⟨rfl, hB⟩
              simp only
              replace Q0 := Lib.hid (Q0.out.next (by first | exact hB | exact undrew hB))
              clear hB K14
              go_wp2_with fail
              refine (x_any 2000000000 2000000000 _).mono ?_
              rintro e wx ⟨rfl, hB⟩
              replace Q0 := Lib.hid (Q0.out.next (by first | exact hB | exact undrew hB))
              clear hB
              go_wp2_with fail
              refine (x_any 2000000000 2000000000 _).mono ?_
              rintro e wx ⟨rfl, hB⟩
              replace Q0 := Lib.hid (Q0.out.next (by first | exact hB | exact undrew hB))
              clear hB
              go_wp2_with fail
              refine (plus_any (2000000000, 2000000000) (2000000000, 2000000000) _).mono ?_
              rw [K15.out]
              unfold pairV
              rintro e wx ⟨rfl, hB⟩
              simp only
              replace Q0 := Lib.hid (Q0.out.next (by first | exact hB | exact undrew hB))
              clear hB K15
              go_wp2_with fail
              refine (Read_any [48, 48, 55, 46, 53, 48, 83] (by simp) _ (HM.out.below Q0.out.1) (HX.out.below Q0.out.1)).mono ?_
              rw [K16.out]
              unfold readV
              rintro e wx ⟨rfl, hB⟩
              simp only
              replace Q0 := Lib.hid (Q0.out.next (by first | exact hB | exact undrew hB))
              clear hB K16
              go_wp2_with fail
              refine (Read_any [57, 48, 46, 48, 48, 48, 48, 48, 49, 78] (by simp) _ (HM.out.below Q0.out.1) (HX.out.below Q0.out.1)).mono ?_
              rw [K17.out]
              unfold readV
              rintro e wx ⟨rfl, hB⟩
              simp only
              replace Q0 := Lib.hid (Q0.out.next (by first | exact hB | exact undrew hB))
              clear hB K17
              go_wp2_with fail
              refine (Read_any [53, 32, 78] (by simp) _ (HM.out.below Q0.out.1) (HX.out.below Q0.out.1)).mono ?_
              rw [K18.out]
              unfold readV
              rintro e wx ⟨rfl, hB⟩
              simp only
              replace Q0 := Lib.hid (Q0.out.next (by first | exact hB | exact undrew hB))
              clear hB K18
              go_wp2_with fail
              refine (write_any (-180000000) 1 (by omega) (by omega) _ (HM.out.below Q0.out.1) (HP.out.below Q0.out.1)).mono ?_
              rw [K19.out]
              unfold textV
              rintro e wx ⟨rfl, hB⟩
              simp only
              replace Q0 := Lib.hid (Q0.out.next (by first | exact hB | exact undrew hB))
              clear hB K19
              go_upto_region 26 with (fail)
              have n0 := fun w => run_eqlE 33333333 33333334 w
              obtain ⟨_, ⟨_, p0, p1, _, _⟩, ⟨_, p2, p3, _, _⟩, ⟨_, p4, p5, _, _⟩, ⟨_, p6, p7, _, _⟩⟩ := Q0.out
              go_region_held3 (fun w' => w'.cell? ⟨c1, 0, none⟩ = some (.int .i64 33333333) ∧ w'.cell? ⟨c1, 1, none⟩ = some (.int .i64 33333334) ∧ w'.cell? ⟨c2, 0, none⟩ = some (.int .i64 0) ∧ w'.cell? ⟨c2, 1, none⟩ = some (.int .i64 150000000) ∧ w'.cell? ⟨c3, 0, none⟩ = some (.int .i64 1) ∧ w'.cell? ⟨c3, 1, none⟩ = some (.int .i64 2) ∧ w'.cell? ⟨c4, 0, none⟩ = some (.int .i64 (-400000000)) ∧ w'.cell? ⟨c4, 1, none⟩ = some (.int .i64 800000000))
                ((go_split_ands; (repeat' apply And.intro) <;> (first | assumption | (go_keep; done))))
                (first
                  | (go_at_call 6; refine (x_any _ _ _).mono ?_; rintro e wN ⟨rfl, hN⟩; first
                      | (have Q4 := Lib.hid (Q3.out.next (by first | exact hN | exact undrew hN)); obtain ⟨_, ⟨_, p0, p1, _, _⟩, ⟨_, p2, p3, _, _⟩, ⟨_, p4, p5, _, _⟩, ⟨_, p6, p7, _, _⟩⟩ := Q4.out)
                      | (have Q3 := Lib.hid (Q2.out.next (by first | exact hN | exact undrew hN)); obtain ⟨_, ⟨_, p0, p1, _, _⟩, ⟨_, p2, p3, _, _⟩, ⟨_, p4, p5, _, _⟩, ⟨_, p6, p7, _, _⟩⟩ := Q3.out)
                      | (have Q2 := Lib.hid (Q1.out.next (by first | exact hN | exact undrew hN)); obtain ⟨_, ⟨_, p0, p1, _, _⟩, ⟨_, p2, p3, _, _⟩, ⟨_, p4, p5, _, _⟩, ⟨_, p6, p7, _, _⟩⟩ := Q2.out)
                      | (have Q1 := Lib.hid (Q0.out.next (by first | exact hN | exact undrew hN)); obtain ⟨_, ⟨_, p0, p1, _, _⟩, ⟨_, p2, p3, _, _⟩, ⟨_, p4, p5, _, _⟩, ⟨_, p6, p7, _, _⟩⟩ := Q1.out))
                  | (go_at_call 15; refine (awake_any _ (HM.out.below Q1.out.1) (HP.out.below Q1.out.1)).mono ?_; rintro e wN ⟨rfl, hN⟩; have Q2 := Lib.hid (Q1.out.next (by first | exact hN | exact undrew hN)); obtain ⟨_, ⟨_, p0, p1, _, _⟩, ⟨_, p2, p3, _, _⟩, ⟨_, p4, p5, _, _⟩, ⟨_, p6, p7, _, _⟩⟩ := Q2.out))
              clear n0
              go_wp2_with fail
              go_ret
              exact ⟨rfl, by first | exact Q2.out.1 | exact Q2.out.drew.1⟩
end Go.Proofs.YtnjedigjabijcaaGreatDoor
