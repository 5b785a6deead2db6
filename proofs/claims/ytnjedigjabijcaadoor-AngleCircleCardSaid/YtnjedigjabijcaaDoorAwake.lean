import Derived.Test.YtnjedigjabijcaaDoorWrite
namespace Go.Proofs.YtnjedigjabijcaaDoor
open Go Go.RowKit

theorem awake1 : sinOfE 45000000 45000000 = ((70710678, 70710679), 0) := by decide +kernel
theorem awake2 : arccosE 50000000 100000000 = ((0, 60000000), 0) := by decide +kernel
theorem awake4 : sinOfE 3600000001 3600000001 = ((0, 0), 7) := by decide +kernel
theorem awake3 : writeE 51507400 0 = ([53, 49, 46, 53, 48, 55, 52, 78], 0) := by
  have e1 : Lib.itoa 51 = [53, 49] := by simp [Lib.itoa, Lib.decDigits]
  have e2 : Lib.itoa 1507400 = [49, 53, 48, 55, 52, 48, 48] := by simp [Lib.itoa, Lib.decDigits]
  unfold writeE sizeL
  simp only [show (51507400 : Int) / 1000000 = 51 from by decide, show (1000000 : Int) + 51507400 % 1000000 = 1507400 from by decide, e1, e2]
  decide +kernel

set_option maxRecDepth 100000 in
set_option maxHeartbeats 4000000 in
/-- The calls that each law makes at its end answer as they must. -/
theorem awake_any (w : World) (hm : MarkTab w) (hp : PowTab w) :
    Calls Tryd.prog 22 #[] w fun e w' => e = .returned (.bool true) ∧ Below w.heap.size w w' := by
  have HM := Lib.hid hm
  have HP := Lib.hid hp
  clear hm hp
  have A1 := Lib.hid awake1
  have A2 := Lib.hid awake2
  have A3 := Lib.hid awake3
  have A4 := Lib.hid awake4
  go_enter Tryd.func22, Tryd.ntmps22
  go_wp2_with fail
  refine (sin_any 45000000 _).mono ?_
  rw [A1.out]
  unfold pairV
  rintro e w1 ⟨rfl, hB1⟩
  have SS1 := Slot2.new w1 (.int .i64 70710678) (.int .i64 70710679) 23
  have k1 := hB1.trans ((alloc_below w1 (.cells #[.int .i64 70710678, .int .i64 70710679] 23)).mono hB1.size)
  simp only
  go_wp2_with fail
  refine (x_any 50000000 100000000 _).mono ?_
  rintro e w2 ⟨rfl, hB2⟩
  have SS2 := SS1.below hB2 SS1.lies
  have k2 := k1.trans (hB2.mono k1.size)
  go_wp2_with fail
  refine (arccos_any 50000000 100000000 _).mono ?_
  rw [A2.out]
  unfold pairV
  rintro e w3 ⟨rfl, hB3⟩
  have SS3 := (SS2.below hB3 SS2.lies).alloc (.cells #[.int .i64 0, .int .i64 60000000] 23)
  have SA3 := Slot2.new w3 (.int .i64 0) (.int .i64 60000000) 23
  have k3a := k2.trans (hB3.mono k2.size)
  have k3 := k3a.trans ((alloc_below w3 (.cells #[.int .i64 0, .int .i64 60000000] 23)).mono k3a.size)
  simp only
  clear hB1 hB2 hB3 k1 k2 k3a SS1 SS2
  go_wp2_with fail
  refine (write_any 51507400 0 (by omega) (by omega) _ (HM.out.below k3) (HP.out.below k3)).mono ?_
  rw [A3.out]
  unfold textV
  rintro e w4 ⟨rfl, hB4⟩
  have SS4 := SS3.below hB4 SS3.lies
  have SA4 := SA3.below hB4 SA3.lies
  have k4 := k3.trans (hB4.mono k3.size)
  simp only
  clear SS3 SA3 hB4 k3
  go_wp2_with fail
  refine (sin_any 3600000001 _).mono ?_
  rw [A4.out]
  unfold pairV
  rintro e w5 ⟨rfl, hB5⟩
  have SS5 := (SS4.below hB5 SS4.lies).alloc (.cells #[.int .i64 0, .int .i64 0] 23)
  have SA5 := (SA4.below hB5 SA4.lies).alloc (.cells #[.int .i64 0, .int .i64 0] 23)
  have k5a := k4.trans (hB5.mono k4.size)
  have k5 := k5a.trans ((alloc_below w5 (.cells #[.int .i64 0, .int .i64 0] 23)).mono k5a.size)
  simp only
  clear SS4 SA4 hB5 k4 k5a
  go_wp2_with fail
  have k5' := Lib.hid k5
  clear k5
  generalize w5.alloc (.cells #[.int .i64 0, .int .i64 0] 23) = W at *
  have lS : w1.heap.size < W.heap.size := SS5.lies
  have lA : w3.heap.size < W.heap.size := SA5.lies
  obtain ⟨_, s0, s1, _, _⟩ := SS5
  obtain ⟨_, a0, a1, _, _⟩ := SA5
  have q1 : ∀ w : World, (binOp .eql 23 (.agg #[.int .i64 70710678, .int .i64 70710679]) (.agg #[.int .i64 70710678, .int .i64 70710679])).run Tryd.prog w = .ok (.bool true) w := fun _ => by kernel_rfl
  have q2 : ∀ w : World, (binOp .eql 23 (.agg #[.int .i64 0, .int .i64 60000000]) (.agg #[.int .i64 0, .int .i64 60000000])).run Tryd.prog w = .ok (.bool true) w := fun _ => by kernel_rfl
  have q3 : ∀ w : World, (binOp .eql 9 (.string { data := #[53, 49, 46, 53, 48, 55, 52, 78] }) (.string { data := #[53, 49, 46, 53, 48, 55, 52, 78] })).run Tryd.prog w = .ok (.bool true) w := fun _ => by kernel_rfl
  go_region_held3 (fun w' => w'.cell? ⟨w1.heap.size, 0, none⟩ = some (.int .i64 70710678) ∧ w'.cell? ⟨w1.heap.size, 1, none⟩ = some (.int .i64 70710679) ∧ w'.cell? ⟨w3.heap.size, 0, none⟩ = some (.int .i64 0) ∧ w'.cell? ⟨w3.heap.size, 1, none⟩ = some (.int .i64 60000000))
    ((go_split_ands; (repeat' apply And.intro) <;> (first
      | assumption
      | exact keep_cell hN (by assumption) (by first | assumption | (simp; omega))
      | (go_keep; done))))
    (first
      | (go_at_call 46; refine (x_any _ _ _).mono ?_; rintro e wN ⟨rfl, hN⟩; have hzN := hN.size; try simp at hzN
         first | (have KN2 := Lib.hid (KN.out.trans (hN.mono KN.out.size))) | (have KN := Lib.hid (k5'.out.trans ((undrew hN).mono k5'.out.size)))))
  clear q1 q2 q3
  go_wp2_with fail
  go_ret
  exact ⟨rfl, KN2.out⟩
end Go.Proofs.YtnjedigjabijcaaDoor
