import Derived.Test.YtnjedigjabijcaaGreatDoorShape
import Derived.Test.YtnjedigjabijcaaGreatDoorAwake
namespace Go.Proofs.YtnjedigjabijcaaGreatDoor
open Go Go.RowKit

theorem Slot2.next {V V' : World} {b : Nat} {x y : Value} (h : Slot2 V b x y) (hB : Below V.heap.size V V') : Slot2 V' b x y := h.below hB h.lies
theorem below_next {w V V' : World} (h : Below w.heap.size w V) (hB : Below V.heap.size V V') : Below w.heap.size w V' := h.trans (hB.mono h.size)
theorem below_alloc {w V : World} (h : Below w.heap.size w V) (o : Obj) : Below w.heap.size w (V.alloc o) := below_next h (alloc_below V o)

def inE (p q : Int × Int) : Bool := decide (q.1 ≤ p.1) && decide (p.2 ≤ q.2)
theorem inE_yes {p q : Int × Int} (h1 : q.1 ≤ p.1) (h2 : p.2 ≤ q.2) : inE p q = true := by unfold inE; simp [h1, h2]

theorem sinOfE_one (a : Int) (h : -3600000000 ≤ a ∧ a ≤ 3600000000) : sinOfE a a = (sineE a, 0) := by
  unfold sinOfE
  have : inB a a (-3600000000) 3600000000 = true := by unfold inB; simp; omega
  rw [this, sinesE_one]; rfl
theorem cosOfE_one (a : Int) (h : -3600000000 ≤ a ∧ a ≤ 3600000000) : cosOfE a a = (sineE (a + 90000000), 0) := by
  unfold cosOfE
  have : inB a a (-3600000000) 3600000000 = true := by unfold inB; simp; omega
  rw [this, sinesE_one]; rfl
theorem sinOfE_yes {lo hi : Int} (h : inB lo hi (-3600000000) 3600000000 = true) : sinOfE lo hi = (sinesE lo hi, 0) := by unfold sinOfE; rw [h]; rfl
theorem sinOfE_no {lo hi : Int} (h : inB lo hi (-3600000000) 3600000000 = false) : sinOfE lo hi = ((0, 0), 7) := by unfold sinOfE; rw [h]; rfl
theorem cosOfE_yes {lo hi : Int} (h : inB lo hi (-3600000000) 3600000000 = true) : cosOfE lo hi = (sinesE (lo + 90000000) (hi + 90000000), 0) := by unfold cosOfE; rw [h]; rfl
theorem cosOfE_no {lo hi : Int} (h : inB lo hi (-3600000000) 3600000000 = false) : cosOfE lo hi = ((0, 0), 7) := by unfold cosOfE; rw [h]; rfl

end Go.Proofs.YtnjedigjabijcaaGreatDoor
