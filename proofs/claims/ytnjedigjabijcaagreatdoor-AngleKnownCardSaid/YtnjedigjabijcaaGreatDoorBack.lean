import Derived.Test.YtnjedigjabijcaaGreatDoorEncl
import Derived.Test.YtnjedigjabijcaaGreatDoorBackMath
namespace Go.Proofs.YtnjedigjabijcaaGreatDoor
open Go Go.RowKit

theorem run_sameE (a b c d : Int) (w : World) : (Op.equalIn 10000 23 (.agg #[.int .i64 a, .int .i64 b]) (.agg #[.int .i64 c, .int .i64 d])).run Tryz.prog w = .ok ((a == c) && (b == d)) w := by
  have h1 : Tryz.prog.underlying 23 = some (.struct (Tryz.prog.fieldsOf 23)) := by kernel_rfl
  have h2 : Tryz.prog.stoodInHeld 23 = false := by kernel_rfl
  rw [run_equalIn_agg w 9999 23 _ _ h1 h2]
  unfold Program.fieldsOf
  rw [Tryz.underlying23]
  have e3 : ∀ (x y : Int) (w : World), (Op.equalIn 9999 3 (.int .i64 x) (.int .i64 y)).run Tryz.prog w = .ok (x == y) w := fun x y w => run_equalIn_int w 9998 3 .i64 .i64 x y Tryz.underlying3
  have p0 : ∀ (x y : Value) (w : World), (part 3 #[x, y] 0).run Tryz.prog w = .ok x w := fun _ _ _ => by kernel_rfl
  have p1 : ∀ (x y : Value) (w : World), (part 3 #[x, y] 1).run Tryz.prog w = .ok y w := fun _ _ _ => by kernel_rfl
  cases h3 : a == c <;> cases h4 : b == d <;> simp [Op.eqFields, Sem.run_bind, p0, p1, e3, h3, h4]
theorem run_neqE (a b : Int) (w : World) : (binOp .neq 23 (.agg #[.int .i64 a, .int .i64 b]) (.agg #[.int .i64 a, .int .i64 b])).run Tryz.prog w = .ok (.bool false) w := by
  rw [run_neq_struct, run_sameE]
  simp

theorem Slot2.both {V : World} {b : Nat} {x y : Value} (h : Slot2 V b x y) (z u : Value) : Slot2 ((V.setCell ⟨b, 0, none⟩ z).setCell ⟨b, 1, none⟩ u) b z u := (h.set0 z).set1 u
theorem Slot2.apart {V : World} {b c : Nat} {x y : Value} (h : Slot2 V b x y) (hne : c ≠ b) (z u : Value) : Slot2 ((V.setCell ⟨c, 0, none⟩ z).setCell ⟨c, 1, none⟩ u) b x y := (h.far _ hne z).far _ hne u
theorem below_both {w V : World} (h : Below w.heap.size w V) {b : Nat} (hb : w.heap.size ≤ b) (z u : Value) : Below w.heap.size w ((V.setCell ⟨b, 0, none⟩ z).setCell ⟨b, 1, none⟩ u) := (h.setCell hb z).setCell hb u

end Go.Proofs.YtnjedigjabijcaaGreatDoor
