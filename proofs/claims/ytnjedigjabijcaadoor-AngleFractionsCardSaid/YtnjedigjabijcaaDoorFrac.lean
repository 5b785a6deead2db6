import Derived.Test.YtnjedigjabijcaaDoorOver
import Derived.Test.YtnjedigjabijcaaDoorFracMath
import Derived.Test.YtnjedigjabijcaaDoorEnclLaw
namespace Go.Proofs.YtnjedigjabijcaaDoor
open Go Go.RowKit

set_option maxRecDepth 100000 in
set_option maxHeartbeats 8000000 in
theorem law_frac_no (y z : Int × Int) (s t : Int) (E1' : timesE y z = ((0, 0), 7)) (E2' : overE y z = ((0, 0), 7))
    (D : y.2 < y.1 ∨ (¬ y.2 < y.1 ∧ z.2 < z.1) ∨ (¬ y.2 < y.1 ∧ ¬ z.2 < z.1 ∧ y.1 < -3000000000) ∨ (¬ y.2 < y.1 ∧ ¬ z.2 < z.1 ∧ ¬ y.1 < -3000000000 ∧ 3000000000 < y.2) ∨
      (¬ y.2 < y.1 ∧ ¬ z.2 < z.1 ∧ ¬ y.1 < -3000000000 ∧ ¬ 3000000000 < y.2 ∧ z.1 < -3000000000) ∨ (¬ y.2 < y.1 ∧ ¬ z.2 < z.1 ∧ ¬ y.1 < -3000000000 ∧ ¬ 3000000000 < y.2 ∧ ¬ z.1 < -3000000000 ∧ 3000000000 < z.2))
    (w : World) (hm : MarkTab w) (hp : PowTab w) :
    Calls Tryd.prog 9 #[.agg #[.int .i64 y.1, .int .i64 y.2], .agg #[.int .i64 z.1, .int .i64 z.2], .agg #[.int .u8 s, .int .u8 t]] w fun e w' => e = .returned (.bool true) ∧ Below w.heap.size w w' := by
  have HM := Lib.hid hm
  have HP := Lib.hid hp
  have E1 := Lib.hid E1'
  have E2 := Lib.hid E2'
  have DD := Lib.hid D
  clear hm hp E1' E2' D
  have SY0 := ((Slot2.new w (.int .i64 y.1) (.int .i64 y.2) 23).alloc (.cells #[.int .i64 z.1, .int .i64 z.2] 23)).alloc (.cells #[.int .u8 s, .int .u8 t] 46)
  have SZ0 := (Slot2.new (w.alloc (.cells #[.int .i64 y.1, .int .i64 y.2] 23)) (.int .i64 z.1) (.int .i64 z.2) 23).alloc (.cells #[.int .u8 s, .int .u8 t] 46)
  have k0 := below_alloc (below_alloc (alloc_below w (.cells #[.int .i64 y.1, .int .i64 y.2] 23)) (.cells #[.int .i64 z.1, .int .i64 z.2] 23)) (.cells #[.int .u8 s, .int .u8 t] 46)
  simp only [World.size_alloc] at SZ0
  go_enter Tryd.func9, Tryd.ntmps9
  have SY00 := SY0
  have SZ00 := SZ0
  obtain ⟨_, a0, a1, _, _⟩ := SY00
  obtain ⟨_, b0, b1, _, _⟩ := SZ00
  go_wp2_with fail
  refine (times_any y z _).mono ?_
  rw [E1.out]
  unfold pairV
  rintro e w1 ⟨rfl, hB1⟩
  have SY1 := SY0.next hB1
  have SZ1 := SZ0.next hB1
  have k1 := below_next k0 hB1
  clear a0 a1 b0 b1 hB1 k0 SY0 SZ0
  have SY2 := SY1.alloc (.cells #[.int .i64 0, .int .i64 0] 23)
  have SZ2 := SZ1.alloc (.cells #[.int .i64 0, .int .i64 0] 23)
  have k2 := below_alloc k1 (.cells #[.int .i64 0, .int .i64 0] 23)
  obtain ⟨_, a0, a1, _, _⟩ := SY1
  obtain ⟨_, b0, b1, _, _⟩ := SZ1
  clear k1
  go_wp2_with fail
  refine (over_any y z _).mono ?_
  rw [E2.out]
  unfold pairV
  rintro e w2 ⟨rfl, hB2⟩
  have SY3 := (SY2.next hB2)
  have SZ3 := (SZ2.next hB2)
  have k3 := below_alloc (below_next k2 hB2) (.cells #[.int .i64 0, .int .i64 0] 23)
  clear a0 a1 b0 b1 hB2 k2 SY2 SZ2
  obtain ⟨_, a0, a1, _, _⟩ := SY3
  obtain ⟨_, b0, b1, _, _⟩ := SZ3
  have HK := Lib.hid k3
  clear k3
  have D := DD.out
  clear DD
  rcases D with c1 | ⟨c1, c2⟩ | ⟨c1, c2, c3⟩ | ⟨c1, c2, c3, c4⟩ | ⟨c1, c2, c3, c4, c5⟩ | ⟨c1, c2, c3, c4, c5, c6⟩
  all_goals
    go_wp2_with fail
    refine (awake_any _ (HM.out.below HK.out) (HP.out.below HK.out)).mono ?_
    rintro e w3 ⟨rfl, hB3⟩
    have HB := Lib.hid (below_next HK.out hB3)
    clear hB3
    go_wp2_with fail
    go_ret
    exact ⟨rfl, HB.out⟩
end Go.Proofs.YtnjedigjabijcaaDoor
