import Derived.Test.YtnjedigjabijcaaDoorArith6
import Derived.Test.YtnjedigjabijcaaDoorWithMath
import Derived.Test.YtnjedigjabijcaaDoorArc2
namespace Go.Proofs.YtnjedigjabijcaaDoor
open Go Go.RowKit

def onesL : List Nat := [18, 20, 23, 25, 27]
def twosL : List Nat := [29, 31, 33, 35]
/-- What a function of one enclosure does. -/
def OneFn (f : Nat) (E : Int × Int → (Int × Int) × Int) : Prop :=
  (∀ args w, (callFunc f args).run Tryd.prog w = .ok (.enter f args) w) ∧ (∀ (x : Int × Int) (W : World), Calls Tryd.prog f #[.agg #[.int .i64 x.1, .int .i64 x.2]] W fun e w' => e = .returned (pairV (E x).1 (E x).2) ∧ Below W.heap.size W w') ∧ Shrinks E
def TwoFn (f : Nat) (E : Int × Int → Int × Int → (Int × Int) × Int) : Prop :=
  (∀ args w, (callFunc f args).run Tryd.prog w = .ok (.enter f args) w) ∧
  (∀ (x y : Int × Int) (W : World), (-9223372036854775808 ≤ y.1 ∧ y.1 ≤ 9223372036854775807) → (-9223372036854775808 ≤ y.2 ∧ y.2 ≤ 9223372036854775807) →
    Calls Tryd.prog f #[.agg #[.int .i64 x.1, .int .i64 x.2], .agg #[.int .i64 y.1, .int .i64 y.2]] W fun e w' => e = .returned (pairV (E x y).1 (E x y).2) ∧ Below W.heap.size W w') ∧ (∀ z, Shrinks fun y => E y z) ∧ (∀ z, Shrinks fun y => E z y)
theorem ones_tab (k : Nat) (h : k < 5) : ∃ f E, onesL[k]? = some f ∧ OneFn f E := by
  have : k = 0 ∨ k = 1 ∨ k = 2 ∨ k = 3 ∨ k = 4 := by omega
  rcases this with rfl | rfl | rfl | rfl | rfl
  · exact ⟨_, fun y => sinOfE y.1 y.2, rfl, fun args w => by kernel_rfl, fun x W => sinOf_any x.1 x.2 W, sinOf_shrinks⟩
  · exact ⟨_, fun y => cosOfE y.1 y.2, rfl, fun args w => by kernel_rfl, fun x W => cosOf_any x.1 x.2 W, cosOf_shrinks⟩
  · exact ⟨_, fun y => arccosE y.1 y.2, rfl, fun args w => by kernel_rfl, fun x W => arccos_any x.1 x.2 W, arccos_shrinks⟩
  · exact ⟨_, fun y => arcsinE y.1 y.2, rfl, fun args w => by kernel_rfl, fun x W => arcsin_any x.1 x.2 W, arcsin_shrinks⟩
  · exact ⟨_, fun y => rootE y.1 y.2, rfl, fun args w => by kernel_rfl, fun x W => Root_any x.1 x.2 W, root_shrinks⟩
theorem twos_tab (k : Nat) (h : k < 4) : ∃ f E, twosL[k]? = some f ∧ TwoFn f E := by
  have : k = 0 ∨ k = 1 ∨ k = 2 ∨ k = 3 := by omega
  rcases this with rfl | rfl | rfl | rfl
  · exact ⟨_, plusE, rfl, fun args w => by kernel_rfl, fun x y W _ _ => plus_any x y W, plus_left, plus_right⟩
  · exact ⟨_, minusE, rfl, fun args w => by kernel_rfl, fun x y W h1 h2 => minus_any x y h1 h2 W, minus_left, minus_right⟩
  · exact ⟨_, timesE, rfl, fun args w => by kernel_rfl, fun x y W _ _ => times_any x y W, times_left, times_right⟩
  · exact ⟨_, overE, rfl, fun args w => by kernel_rfl, fun x y W _ _ => over_any x y W, over_left, over_right⟩

/-- Function values that lie one behind the other. -/
def Fns (V : World) (b : Nat) (l : List Nat) : Prop := b < V.heap.size ∧ ∀ (i : Nat) (f : Nat), l[i]? = some f → V.cell? ⟨b, i, none⟩ = some (.func (.func f) #[] #[])
theorem Fns.next {V V' : World} {b : Nat} {l : List Nat} (h : Fns V b l) (hB : Below V.heap.size V V') : Fns V' b l :=
  ⟨Nat.lt_of_lt_of_le h.1 hB.size, fun i f hf => by rw [hB.cell h.1, h.2 i f hf]⟩
theorem Fns.alloc {V : World} {b : Nat} {l : List Nat} (h : Fns V b l) (o : Obj) : Fns (V.alloc o) b l := h.next (alloc_below V o)
theorem Fns.far {V : World} {b : Nat} {l : List Nat} (h : Fns V b l) (p : Addr) (hp : p.block ≠ b) (z : Value) : Fns (V.setCell p z) b l :=
  ⟨by simpa using h.1, fun i f hf => by rw [World.cell?_setCell_other (h := fun e => hp (by rw [e])), h.2 i f hf]⟩
theorem Fns.apart {V : World} {b c : Nat} {l : List Nat} (h : Fns V b l) (hne : c ≠ b) (z u : Value) : Fns ((V.setCell ⟨c, 0, none⟩ z).setCell ⟨c, 1, none⟩ u) b l := (h.far _ hne z).far _ hne u
theorem Fns.five (V : World) (T : TypeId) : Fns (V.alloc (.cells #[.func (.func 18) #[] #[], .func (.func 20) #[] #[], .func (.func 23) #[] #[], .func (.func 25) #[] #[], .func (.func 27) #[] #[]] T)) V.heap.size onesL := by
  refine ⟨by simp, fun i f hf => ?_⟩
  have hi : i < 5 := (List.getElem?_eq_some_iff.1 hf).1
  have : i = 0 ∨ i = 1 ∨ i = 2 ∨ i = 3 ∨ i = 4 := by omega
  rcases this with rfl | rfl | rfl | rfl | rfl <;> (obtain rfl := Option.some.inj hf; simp [go_sem])
theorem Fns.four (V : World) (T : TypeId) : Fns (V.alloc (.cells #[.func (.func 29) #[] #[], .func (.func 31) #[] #[], .func (.func 33) #[] #[], .func (.func 35) #[] #[]] T)) V.heap.size twosL := by
  refine ⟨by simp, fun i f hf => ?_⟩
  have hi : i < 4 := (List.getElem?_eq_some_iff.1 hf).1
  have : i = 0 ∨ i = 1 ∨ i = 2 ∨ i = 3 := by omega
  rcases this with rfl | rfl | rfl | rfl <;> (obtain rfl := Option.some.inj hf; simp [go_sem])

/-- What every round of both loops keeps. -/
structure WithSt (w wr : World) (y z s : Int × Int) (bs bf : Nat) (l : List Nat) : Prop where
  below : Below w.heap.size w wr
  sy : Slot2 wr w.heap.size (.int .i64 y.1) (.int .i64 y.2)
  sz : Slot2 wr (w.heap.size + 1) (.int .i64 z.1) (.int .i64 z.2)
  ss : Slot2 wr bs (.int .i64 s.1) (.int .i64 s.2)
  fns : Fns wr bf l
theorem WithSt.next {w wr V : World} {y z s : Int × Int} {bs bf : Nat} {l : List Nat} (h : WithSt w wr y z s bs bf l) (hB : Below wr.heap.size wr V) : WithSt w V y z s bs bf l :=
  ⟨below_next h.below hB, h.sy.next hB, h.sz.next hB, h.ss.next hB, h.fns.next hB⟩
theorem WithSt.alloc {w wr : World} {y z s : Int × Int} {bs bf : Nat} {l : List Nat} (h : WithSt w wr y z s bs bf l) (o : Obj) : WithSt w (wr.alloc o) y z s bs bf l := h.next (alloc_below wr o)
theorem WithSt.drew {w wr : World} {y z s : Int × Int} {bs bf : Nat} {l : List Nat} (h : WithSt w wr y z s bs bf l) : WithSt w wr.drew y z s bs bf l := ⟨below_drawn h.below 1, ⟨h.sy.1, h.sy.2, h.sy.3, h.sy.4, h.sy.5⟩, ⟨h.sz.1, h.sz.2, h.sz.3, h.sz.4, h.sz.5⟩, ⟨h.ss.1, h.ss.2, h.ss.3, h.ss.4, h.ss.5⟩, ⟨h.fns.1, h.fns.2⟩⟩
theorem WithSt.both {w wr : World} {y z s : Int × Int} {bs bf c : Nat} {l : List Nat} (h : WithSt w wr y z s bs bf l) (h0 : w.heap.size + 1 < c) (h1 : c ≠ bs) (h2 : c ≠ bf) (a b : Value) : WithSt w ((wr.setCell ⟨c, 0, none⟩ a).setCell ⟨c, 1, none⟩ b) y z s bs bf l :=
  ⟨below_both h.below (by omega) a b, h.sy.apart (by omega) a b, h.sz.apart (by omega) a b, h.ss.apart h1 a b, h.fns.apart h2 a b⟩
def OneRel (w : World) (y z s : Int × Int) (bs bf : Nat) (i : Value) (wr : World) : Prop := ∃ k : Nat, k ≤ 5 ∧ i = .int .i64 k ∧ WithSt w wr y z s bs bf onesL
def TwoRel (w : World) (y z s : Int × Int) (bs bf : Nat) (i : Value) (wr : World) : Prop := ∃ k : Nat, k ≤ 4 ∧ i = .int .i64 k ∧ WithSt w wr y z s bs bf twosL
/-- What a call's result leaves behind: it lies in a new block; all else is as it was. -/
def PutAt (w wr wx : World) (y z s : Int × Int) (bs bf : Nat) (l : List Nat) (q : (Int × Int) × Int) (u v : Value) : Prop :=
  ∃ c, u = .pointer (some ⟨c, 0, none⟩) ∧ v = .int .i64 q.2 ∧ wr.heap.size ≤ c ∧ WithSt w wx y z s bs bf l ∧ Slot2 wx c (.int .i64 q.1.1) (.int .i64 q.1.2) ∧ (∀ b x x', Slot2 wr b x x' → Slot2 wx b x x')
theorem put_a {w wr w2 : World} {y z s : Int × Int} {bs bf : Nat} {l : List Nat} (h : WithSt w wr y z s bs bf l) (q : (Int × Int) × Int) (hB : Below wr.heap.size wr w2) (T : TypeId) :
    PutAt w wr (w2.alloc (.cells #[.int .i64 q.1.1, .int .i64 q.1.2] T)) y z s bs bf l q (.pointer (some ⟨w2.heap.size, 0, none⟩)) (.int .i64 q.2) :=
  ⟨_, rfl, rfl, hB.size, (h.next hB).alloc _, Slot2.new w2 _ _ T, fun _ _ _ k => (k.next hB).alloc _⟩
theorem put_b {w wr w2 : World} {y z s : Int × Int} {bs bf : Nat} {l : List Nat} (h : WithSt w wr y z s bs bf l) (q : (Int × Int) × Int) (T : TypeId) (hB : Below (wr.alloc (.cells #[.int .i64 0, .int .i64 0] T)).heap.size (wr.alloc (.cells #[.int .i64 0, .int .i64 0] T)) w2) :
    PutAt w wr ((w2.setCell ⟨wr.heap.size, 0, none⟩ (.int .i64 q.1.1)).setCell ⟨wr.heap.size, 1, none⟩ (.int .i64 q.1.2)) y z s bs bf l q (.pointer (some ⟨wr.heap.size, 0, none⟩)) (.int .i64 q.2) := by
  have h1 := h.sz.lies
  have h2 := h.ss.lies
  have h3 := h.fns.1
  exact ⟨_, rfl, rfl, Nat.le_refl _, ((h.alloc _).next hB).both (by omega) (by omega) (by omega) _ _, ((Slot2.new wr _ _ T).next hB).both _ _, fun b _ _ k => ((k.alloc _).next hB).apart (by have := k.lies; omega) _ _⟩
end Go.Proofs.YtnjedigjabijcaaDoor
