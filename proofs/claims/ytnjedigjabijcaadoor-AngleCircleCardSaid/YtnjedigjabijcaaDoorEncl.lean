import Derived.Test.YtnjedigjabijcaaDoorShape
import Derived.Test.YtnjedigjabijcaaDoorAwake
namespace Go.Proofs.YtnjedigjabijcaaDoor
open Go Go.RowKit

theorem Slot2.next {V V' : World} {b : Nat} {x y : Value} (h : Slot2 V b x y) (hB : Below V.heap.size V V') : Slot2 V' b x y := h.below hB h.lies
theorem below_next {w V V' : World} (h : Below w.heap.size w V) (hB : Below V.heap.size V V') : Below w.heap.size w V' := h.trans (hB.mono h.size)
theorem below_alloc {w V : World} (h : Below w.heap.size w V) (o : Obj) : Below w.heap.size w (V.alloc o) := below_next h (alloc_below V o)

def inE (p q : Int × Int) : Bool := decide (q.1 ≤ p.1) && decide (p.2 ≤ q.2)
theorem inE_yes {p q : Int × Int} (h1 : q.1 ≤ p.1) (h2 : p.2 ≤ q.2) : inE p q = true := by unfold inE; simp [h1, h2]

set_option maxHeartbeats 1000000 in
theorem inside_any (p q : Int × Int) (w : World) :
    Calls Tryd.prog 45 #[.agg #[.int .i64 p.1, .int .i64 p.2], .agg #[.int .i64 q.1, .int .i64 q.2]] w fun e w' => e = .returned (.bool (inE p q)) ∧ Below w.heap.size w w' := by
  have E : Hid (inE p q = (decide (q.1 ≤ p.1) && decide (p.2 ≤ q.2))) := rfl
  by_cases c1 : q.1 ≤ p.1
  · by_cases c2 : p.2 ≤ q.2
    all_goals
      go_enter Tryd.func45, Tryd.ntmps45
      go_wp2
      go_ret
      exact ⟨ret_bool (by rw [E.out]; simp [*]), by go_grown⟩
  · have c1' : decide (q.1 ≤ p.1) = false := decide_eq_false c1
    go_enter Tryd.func45, Tryd.ntmps45
    go_wp2
    go_ret
    exact ⟨ret_bool (by rw [E.out, c1']; rfl), by go_grown⟩
theorem sinOfE_one (a : Int) (h : -3600000000 ≤ a ∧ a ≤ 3600000000) : sinOfE a a = (sineE a, 0) := by
  unfold sinOfE
  have : inB a a (-3600000000) 3600000000 = true := by unfold inB; simp; omega
  rw [this, sinesE_one]; rfl
theorem cosOfE_one (a : Int) (h : -3600000000 ≤ a ∧ a ≤ 3600000000) : cosOfE a a = (sineE (a + 90000000), 0) := by
  unfold cosOfE
  have : inB a a (-3600000000) 3600000000 = true := by unfold inB; simp; omega
  rw [this, sinesE_one]; rfl
theorem sinOfE_yes {lo hi : Int} (h : inB lo hi (-3600000000) 3600000000 = true) : sinOfE lo hi = (sinesE lo hi, 0) := by unfold sinOfE; rw [h]; rfl
theorem sinOfE_no {lo hi : Int} (h : inB lo hi (-3600000000) 3600000000 = false) : sinOfE lo hi = ((0, 0), 7) := by unfold sinOfE; rw [h]; rfl
theorem cosOfE_yes {lo hi : Int} (h : inB lo hi (-3600000000) 3600000000 = true) : cosOfE lo hi = (sinesE (lo + 90000000) (hi + 90000000), 0) := by unfold cosOfE; rw [h]; rfl
theorem cosOfE_no {lo hi : Int} (h : inB lo hi (-3600000000) 3600000000 = false) : cosOfE lo hi = ((0, 0), 7) := by unfold cosOfE; rw [h]; rfl

set_option maxRecDepth 100000 in
set_option maxHeartbeats 4000000 in
theorem law_encl_no (lo hi t : Int) (hc : inB lo hi (-3600000000) 3600000000 = false) (w : World) (hm : MarkTab w) (hp : PowTab w) :
    Calls Tryd.prog 8 #[.agg #[.int .i64 lo, .int .i64 hi], .int .u8 t] w fun e w' => e = .returned (.bool true) ∧ Below w.heap.size w w' := by
  have HM := Lib.hid hm
  have HP := Lib.hid hp
  have E1 := Lib.hid (sinOfE_no hc)
  have E2 := Lib.hid (cosOfE_no hc)
  clear hm hp hc
  have SA0 := Slot2.new w (.int .i64 lo) (.int .i64 hi) 23
  have k0 := alloc_below w (.cells #[.int .i64 lo, .int .i64 hi] 23)
  go_enter Tryd.func8, Tryd.ntmps8
  go_wp2_with fail
  refine (sinOf_any lo hi _).mono ?_
  rw [E1.out]
  unfold pairV
  rintro e w1 ⟨rfl, hB1⟩
  have k1 := below_next k0 hB1
  have SA1 := SA0.next hB1
  have SA2 := SA1.alloc (.cells #[.int .i64 0, .int .i64 0] 23)
  have k2 := below_alloc k1 (.cells #[.int .i64 0, .int .i64 0] 23)
  obtain ⟨lies, a0, a1, _, _⟩ := SA1
  clear hB1 k0 k1 SA0
  go_wp2_with fail
  refine (cosOf_any lo hi _).mono ?_
  rw [E2.out]
  unfold pairV
  rintro e w2 ⟨rfl, hB2⟩
  have k3 := below_alloc (below_next k2 hB2) (.cells #[.int .i64 0, .int .i64 0] 23)
  clear hB2 k2 SA2 lies a0 a1
  go_wp2_with fail
  refine (awake_any _ (HM.out.below k3) (HP.out.below k3)).mono ?_
  rintro e w3 ⟨rfl, hB3⟩
  have HB := Lib.hid (below_next k3 hB3)
  clear k3 hB3
  go_wp2_with fail
  go_ret
  exact ⟨rfl, HB.out⟩
end Go.Proofs.YtnjedigjabijcaaDoor
