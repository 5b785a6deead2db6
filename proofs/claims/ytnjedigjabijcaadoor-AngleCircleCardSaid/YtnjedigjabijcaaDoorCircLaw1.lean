import Derived.Test.YtnjedigjabijcaaDoorCirc7
import Derived.Test.YtnjedigjabijcaaDoorBackLaw
namespace Go.Proofs.YtnjedigjabijcaaDoor
open Go Go.RowKit

/-- Four enclosures in four blocks, in this order. -/
def Four4 (w V : World) (c1 c2 c3 c4 : Nat) (s c t d : Int × Int) : Prop :=
  Below w.heap.size w V ∧ Slot2 V c1 (.int .i64 s.1) (.int .i64 s.2) ∧ Slot2 V c2 (.int .i64 c.1) (.int .i64 c.2) ∧ Slot2 V c3 (.int .i64 t.1) (.int .i64 t.2) ∧ Slot2 V c4 (.int .i64 d.1) (.int .i64 d.2)
theorem Four4.next {w V V' : World} {c1 c2 c3 c4 : Nat} {s c t d : Int × Int} (h : Four4 w V c1 c2 c3 c4 s c t d) (hB : Below V.heap.size V V') : Four4 w V' c1 c2 c3 c4 s c t d :=
  ⟨below_next h.1 hB, h.2.1.next hB, h.2.2.1.next hB, h.2.2.2.1.next hB, h.2.2.2.2.next hB⟩

def Six4 (w V : World) (c1 c2 c3 c4 c5 c6 : Nat) (s c t d u v : Int × Int) : Prop :=
  Four4 w V c1 c2 c3 c4 s c t d ∧ Slot2 V c5 (.int .i64 u.1) (.int .i64 u.2) ∧ Slot2 V c6 (.int .i64 v.1) (.int .i64 v.2)
theorem Six4.next {w V V' : World} {c1 c2 c3 c4 c5 c6 : Nat} {s c t d u v : Int × Int} (h : Six4 w V c1 c2 c3 c4 c5 c6 s c t d u v) (hB : Below V.heap.size V V') : Six4 w V' c1 c2 c3 c4 c5 c6 s c t d u v :=
  ⟨h.1.next hB, h.2.1.next hB, h.2.2.next hB⟩
theorem ck_alloc {V : World} {a : Addr} {v : Value} {o : Obj} (h : V.cell? a = some v) : (V.alloc o).cell? a = some v := keep_cell (alloc_below V o) h (World.block_lt_of_cell? V _ h)
theorem ck_set {V : World} {a p : Addr} {v x : Value} (h : V.cell? a = some v) (hne : p.block ≠ a.block) : (V.setCell p x).cell? a = some v := by
  rw [World.cell?_setCell_other (h := fun e => hne (by rw [e]))]
  exact h
theorem ck_drew {V : World} {a : Addr} {v : Value} (h : V.cell? a = some v) : V.drew.cell? a = some v := h
theorem pair_apart {V : World} {c d : Nat} {x y z u : Value} (_hc : Slot2 V c x y) (hd : Slot2 V d z u) (hne : c ≠ d) (p q : Value) : Slot2 ((V.setCell ⟨c, 0, none⟩ p).setCell ⟨c, 1, none⟩ q) d z u := hd.apart hne p q
theorem new_apart {V : World} {d : Nat} {z u : Value} (hd : Slot2 V d z u) (o : Obj) (p q : Value) : Slot2 (((V.alloc o).setCell ⟨V.heap.size, 0, none⟩ p).setCell ⟨V.heap.size, 1, none⟩ q) d z u :=
  (hd.alloc o).apart (by have := hd.lies; omega) p q
theorem six_s0 {w V : World} {c1 c2 c3 c4 c5 c6 : Nat} {s c t d u v : Int × Int} (h : Six4 w V c1 c2 c3 c4 c5 c6 s c t d u v) : V.cell? ⟨c1, 0, none⟩ = some (.int .i64 s.1) := h.1.2.1.cell0
theorem six_s1 {w V : World} {c1 c2 c3 c4 c5 c6 : Nat} {s c t d u v : Int × Int} (h : Six4 w V c1 c2 c3 c4 c5 c6 s c t d u v) : V.cell? ⟨c1, 1, none⟩ = some (.int .i64 s.2) := h.1.2.1.cell1
theorem six_c0 {w V : World} {c1 c2 c3 c4 c5 c6 : Nat} {s c t d u v : Int × Int} (h : Six4 w V c1 c2 c3 c4 c5 c6 s c t d u v) : V.cell? ⟨c2, 0, none⟩ = some (.int .i64 c.1) := h.1.2.2.1.cell0
theorem six_c1 {w V : World} {c1 c2 c3 c4 c5 c6 : Nat} {s c t d u v : Int × Int} (h : Six4 w V c1 c2 c3 c4 c5 c6 s c t d u v) : V.cell? ⟨c2, 1, none⟩ = some (.int .i64 c.2) := h.1.2.2.1.cell1
theorem six_t0 {w V : World} {c1 c2 c3 c4 c5 c6 : Nat} {s c t d u v : Int × Int} (h : Six4 w V c1 c2 c3 c4 c5 c6 s c t d u v) : V.cell? ⟨c3, 0, none⟩ = some (.int .i64 t.1) := h.1.2.2.2.1.cell0
theorem six_t1 {w V : World} {c1 c2 c3 c4 c5 c6 : Nat} {s c t d u v : Int × Int} (h : Six4 w V c1 c2 c3 c4 c5 c6 s c t d u v) : V.cell? ⟨c3, 1, none⟩ = some (.int .i64 t.2) := h.1.2.2.2.1.cell1
theorem six_d0 {w V : World} {c1 c2 c3 c4 c5 c6 : Nat} {s c t d u v : Int × Int} (h : Six4 w V c1 c2 c3 c4 c5 c6 s c t d u v) : V.cell? ⟨c4, 0, none⟩ = some (.int .i64 d.1) := h.1.2.2.2.2.cell0
theorem six_d1 {w V : World} {c1 c2 c3 c4 c5 c6 : Nat} {s c t d u v : Int × Int} (h : Six4 w V c1 c2 c3 c4 c5 c6 s c t d u v) : V.cell? ⟨c4, 1, none⟩ = some (.int .i64 d.2) := h.1.2.2.2.2.cell1
theorem undrew2 {a w : World} (h : Below a.drew.heap.size a.drew w) : Below a.heap.size a w := ⟨h.os, h.tape, h.output, h.size, h.block⟩
theorem slot_drew {V : World} {b : Nat} {x y : Value} (h : Slot2 V b x y) : Slot2 V.drew b x y := ⟨h.1, h.2, h.3, h.4, h.5⟩
theorem six_alloc {w V : World} {c1 c2 c3 c4 c5 c6 : Nat} {s c t d u v : Int × Int} {o : Obj} (h : Six4 w V c1 c2 c3 c4 c5 c6 s c t d u v) : Six4 w (V.alloc o) c1 c2 c3 c4 c5 c6 s c t d u v := h.next (alloc_below V o)
theorem six_drew {w V : World} {c1 c2 c3 c4 c5 c6 : Nat} {s c t d u v : Int × Int} (h : Six4 w V c1 c2 c3 c4 c5 c6 s c t d u v) : Six4 w V.drew c1 c2 c3 c4 c5 c6 s c t d u v :=
  ⟨⟨⟨h.1.1.os, h.1.1.tape, h.1.1.output, h.1.1.size, h.1.1.block⟩, slot_drew h.1.2.1, slot_drew h.1.2.2.1, slot_drew h.1.2.2.2.1, slot_drew h.1.2.2.2.2⟩, slot_drew h.2.1, slot_drew h.2.2⟩
theorem six_set {w V : World} {c1 c2 c3 c4 c5 c6 : Nat} {s c t d u v : Int × Int} {p : Addr} {x : Value} (h : Six4 w V c1 c2 c3 c4 c5 c6 s c t d u v) (h0 : w.heap.size ≤ p.block)
    (h1 : p.block ≠ c1) (h2 : p.block ≠ c2) (h3 : p.block ≠ c3) (h4 : p.block ≠ c4) (h5 : p.block ≠ c5) (h6 : p.block ≠ c6) : Six4 w (V.setCell p x) c1 c2 c3 c4 c5 c6 s c t d u v :=
  ⟨⟨h.1.1.setCell h0 x, h.1.2.1.far p h1 x, h.1.2.2.1.far p h2 x, h.1.2.2.2.1.far p h3 x, h.1.2.2.2.2.far p h4 x⟩, h.2.1.far p h5 x, h.2.2.far p h6 x⟩
theorem below_drew {w V : World} (h : Below w.heap.size w V) : Below w.heap.size w V.drew := ⟨h.os, h.tape, h.output, h.size, h.block⟩
theorem six_u {w V : World} {c1 c2 c3 c4 c5 c6 : Nat} {s c t d u v : Int × Int} (h : Six4 w V c1 c2 c3 c4 c5 c6 s c t d u v) (h0 : w.heap.size ≤ c5) (h1 : c5 ≠ c1) (h2 : c5 ≠ c2) (h3 : c5 ≠ c3) (h4 : c5 ≠ c4) (h6 : c5 ≠ c6) (z : Int × Int) :
    Six4 w ((V.setCell ⟨c5, 0, none⟩ (.int .i64 z.1)).setCell ⟨c5, 1, none⟩ (.int .i64 z.2)) c1 c2 c3 c4 c5 c6 s c t d z v :=
  ⟨⟨below_both h.1.1 h0 _ _, h.1.2.1.apart h1 _ _, h.1.2.2.1.apart h2 _ _, h.1.2.2.2.1.apart h3 _ _, h.1.2.2.2.2.apart h4 _ _⟩, h.2.1.both _ _, h.2.2.apart h6 _ _⟩
theorem six_v {w V : World} {c1 c2 c3 c4 c5 c6 : Nat} {s c t d u v : Int × Int} (h : Six4 w V c1 c2 c3 c4 c5 c6 s c t d u v) (h0 : w.heap.size ≤ c6) (h1 : c6 ≠ c1) (h2 : c6 ≠ c2) (h3 : c6 ≠ c3) (h4 : c6 ≠ c4) (h5 : c6 ≠ c5) (z : Int × Int) :
    Six4 w ((V.setCell ⟨c6, 0, none⟩ (.int .i64 z.1)).setCell ⟨c6, 1, none⟩ (.int .i64 z.2)) c1 c2 c3 c4 c5 c6 s c t d u z :=
  ⟨⟨below_both h.1.1 h0 _ _, h.1.2.1.apart h1 _ _, h.1.2.2.1.apart h2 _ _, h.1.2.2.2.1.apart h3 _ _, h.1.2.2.2.2.apart h4 _ _⟩, h.2.1.apart h5 _ _, h.2.2.both _ _⟩
/-- What is known in region 15: the loaded cells, and that older memory is as it was. -/
def OwnC (W V : World) (c1 c2 c3 c4 : Nat) (s c t d : Int × Int) : Prop :=
  Below W.heap.size W V ∧ (c1 < W.heap.size ∧ c2 < W.heap.size ∧ c3 < W.heap.size ∧ c4 < W.heap.size) ∧ (V.cell? ⟨c1, 0, none⟩ = some (.int .i64 s.1) ∧ V.cell? ⟨c1, 1, none⟩ = some (.int .i64 s.2)) ∧ (V.cell? ⟨c2, 0, none⟩ = some (.int .i64 c.1) ∧ V.cell? ⟨c2, 1, none⟩ = some (.int .i64 c.2)) ∧
    (V.cell? ⟨c3, 0, none⟩ = some (.int .i64 t.1) ∧ V.cell? ⟨c3, 1, none⟩ = some (.int .i64 t.2)) ∧ (V.cell? ⟨c4, 0, none⟩ = some (.int .i64 d.1) ∧ V.cell? ⟨c4, 1, none⟩ = some (.int .i64 d.2))
theorem OwnC.next {W V V' : World} {c1 c2 c3 c4 : Nat} {s c t d : Int × Int} (h : OwnC W V c1 c2 c3 c4 s c t d) (hB : Below V.heap.size V V') : OwnC W V' c1 c2 c3 c4 s c t d := by
  obtain ⟨h1, ⟨l1, l2, l3, l4⟩, ⟨a, b⟩, ⟨e, f⟩, ⟨g, i⟩, j, k⟩ := h
  have z := h1.size
  exact ⟨below_next h1 hB, ⟨l1, l2, l3, l4⟩, ⟨keep_cell hB a (Nat.lt_of_lt_of_le l1 z), keep_cell hB b (Nat.lt_of_lt_of_le l1 z)⟩, ⟨keep_cell hB e (Nat.lt_of_lt_of_le l2 z), keep_cell hB f (Nat.lt_of_lt_of_le l2 z)⟩, ⟨keep_cell hB g (Nat.lt_of_lt_of_le l3 z), keep_cell hB i (Nat.lt_of_lt_of_le l3 z)⟩, keep_cell hB j (Nat.lt_of_lt_of_le l4 z), keep_cell hB k (Nat.lt_of_lt_of_le l4 z)⟩
theorem ownC_of {w V : World} {c1 c2 c3 c4 c5 c6 : Nat} {s c t d u v : Int × Int} (h : Six4 w V c1 c2 c3 c4 c5 c6 s c t d u v) : OwnC V V c1 c2 c3 c4 s c t d :=
  ⟨Below.refl _ _, ⟨h.1.2.1.lies, h.1.2.2.1.lies, h.1.2.2.2.1.lies, h.1.2.2.2.2.lies⟩, ⟨h.1.2.1.cell0, h.1.2.1.cell1⟩, ⟨h.1.2.2.1.cell0, h.1.2.2.1.cell1⟩, ⟨h.1.2.2.2.1.cell0, h.1.2.2.2.1.cell1⟩, h.1.2.2.2.2.cell0, h.1.2.2.2.2.cell1⟩
theorem own_s0 {W V : World} {c1 c2 c3 c4 : Nat} {s c t d : Int × Int} (h : OwnC W V c1 c2 c3 c4 s c t d) : V.cell? ⟨c1, 0, none⟩ = some (.int .i64 s.1) := h.2.2.1.1
theorem own_s1 {W V : World} {c1 c2 c3 c4 : Nat} {s c t d : Int × Int} (h : OwnC W V c1 c2 c3 c4 s c t d) : V.cell? ⟨c1, 1, none⟩ = some (.int .i64 s.2) := h.2.2.1.2
theorem own_c0 {W V : World} {c1 c2 c3 c4 : Nat} {s c t d : Int × Int} (h : OwnC W V c1 c2 c3 c4 s c t d) : V.cell? ⟨c2, 0, none⟩ = some (.int .i64 c.1) := h.2.2.2.1.1
theorem own_c1 {W V : World} {c1 c2 c3 c4 : Nat} {s c t d : Int × Int} (h : OwnC W V c1 c2 c3 c4 s c t d) : V.cell? ⟨c2, 1, none⟩ = some (.int .i64 c.2) := h.2.2.2.1.2
theorem own_t0 {W V : World} {c1 c2 c3 c4 : Nat} {s c t d : Int × Int} (h : OwnC W V c1 c2 c3 c4 s c t d) : V.cell? ⟨c3, 0, none⟩ = some (.int .i64 t.1) := h.2.2.2.2.1.1
theorem own_t1 {W V : World} {c1 c2 c3 c4 : Nat} {s c t d : Int × Int} (h : OwnC W V c1 c2 c3 c4 s c t d) : V.cell? ⟨c3, 1, none⟩ = some (.int .i64 t.2) := h.2.2.2.2.1.2
theorem own_d0 {W V : World} {c1 c2 c3 c4 : Nat} {s c t d : Int × Int} (h : OwnC W V c1 c2 c3 c4 s c t d) : V.cell? ⟨c4, 0, none⟩ = some (.int .i64 d.1) := h.2.2.2.2.2.1
theorem own_d1 {W V : World} {c1 c2 c3 c4 : Nat} {s c t d : Int × Int} (h : OwnC W V c1 c2 c3 c4 s c t d) : V.cell? ⟨c4, 1, none⟩ = some (.int .i64 d.2) := h.2.2.2.2.2.2
theorem own_low {W V : World} {c1 c2 c3 c4 : Nat} {s c t d : Int × Int} (h : OwnC W V c1 c2 c3 c4 s c t d) : Below W.heap.size W V := h.1
theorem bl_set {W V : World} {B : Nat} (h : Below B W V) {b k : Nat} (hb : B ≤ b) (x : Value) : Below B W (V.setCell ⟨b, k, none⟩ x) := h.setCell hb x
theorem slot_newAt (V : World) (b : Nat) (x y : Value) (T : TypeId) (hb : b = V.heap.size) : Slot2 (V.alloc (.cells #[x, y] T)) b x y := by
  subst hb
  exact Slot2.new V x y T
theorem run_eqE (a b : Int) (w : World) : (binOp .eql 23 (.agg #[.int .i64 a, .int .i64 b]) (.agg #[.int .i64 a, .int .i64 b])).run Tryd.prog w = .ok (.bool true) w := by
  rw [run_eql_struct, run_sameE]
  simp
theorem csq (p1 p2 : Int) (h : Fit (p1, p2)) (w : World) :
    Calls Tryd.prog 43 #[.agg #[.int .i64 p1, .int .i64 p2]] w fun e w' => e = .returned (.agg #[.int .i64 (sqE (p1, p2)).1, .int .i64 (sqE (p1, p2)).2]) ∧ Below w.heap.size w w' := lsquare_any (p1, p2) h w
theorem cpr (p1 p2 q1 q2 : Int) (h : Fit (p1, p2)) (g : Fit (q1, q2)) (w : World) :
    Calls Tryd.prog 44 #[.agg #[.int .i64 p1, .int .i64 p2], .agg #[.int .i64 q1, .int .i64 q2]] w fun e w' => e = .returned (.agg #[.int .i64 (prodE (p1, p2) (q1, q2)).1, .int .i64 (prodE (p1, p2) (q1, q2)).2]) ∧ Below w.heap.size w w' := lprod_any (p1, p2) (q1, q2) h g w
/-- The same, its result's ends given by two functions of which nothing is said. -/
theorem cpr_fn : ∃ F G : Int → Int → Int → Int → Int, (∀ p1 p2 q1 q2, F p1 p2 q1 q2 = (prodE (p1, p2) (q1, q2)).1 ∧ G p1 p2 q1 q2 = (prodE (p1, p2) (q1, q2)).2) ∧
    ∀ (p1 p2 q1 q2 : Int), Fit (p1, p2) → Fit (q1, q2) → ∀ (w : World),
    Calls Tryd.prog 44 #[.agg #[.int .i64 p1, .int .i64 p2], .agg #[.int .i64 q1, .int .i64 q2]] w fun e w' => e = .returned (.agg #[.int .i64 (F p1 p2 q1 q2), .int .i64 (G p1 p2 q1 q2)]) ∧ Below w.heap.size w w' :=
  ⟨fun p1 p2 q1 q2 => (prodE (p1, p2) (q1, q2)).1, fun p1 p2 q1 q2 => (prodE (p1, p2) (q1, q2)).2, fun _ _ _ _ => ⟨rfl, rfl⟩, fun p1 p2 q1 q2 h g w => cpr p1 p2 q1 q2 h g w⟩
theorem csu (p1 p2 q1 q2 : Int) (h1 : -9000000000000000000 ≤ p1 + q1) (h2 : p1 + q1 ≤ 9000000000000000000) (h3 : -9000000000000000000 ≤ p2 + q2) (h4 : p2 + q2 ≤ 9000000000000000000) (w : World) :
    Calls Tryd.prog 42 #[.agg #[.int .i64 p1, .int .i64 p2], .agg #[.int .i64 q1, .int .i64 q2]] w fun e w' => e = .returned (.agg #[.int .i64 (p1 + q1), .int .i64 (p2 + q2)]) ∧ Below w.heap.size w w' := sum_any (p1, p2) (q1, q2) h1 h2 h3 h4 w
theorem cme (p1 p2 q1 q2 : Int) (h : meetB (p1, p2) (q1, q2) = true) (w : World) :
    Calls Tryd.prog 41 #[.agg #[.int .i64 p1, .int .i64 p2], .agg #[.int .i64 q1, .int .i64 q2]] w fun e w' => e = .returned (.bool true) ∧ Below w.heap.size w w' := by
  have := meet_any (p1, p2) (q1, q2) w
  rw [h] at this
  exact this

set_option maxRecDepth 100000 in
set_option maxHeartbeats 40000000 in
theorem law_circle_in (a b : Int) (s c t d u v : Int × Int) (w : World) (hm : MarkTab w) (hp : PowTab w)
    (a0 : -1800000000 ≤ a) (a1 : a ≤ 1800000000) (b0 : -1800000000 ≤ b) (b1 : b ≤ 1800000000)
    (E1 : sinOfE a a = (s, 0)) (E2 : cosOfE a a = (c, 0)) (E3 : sinOfE b b = (t, 0)) (E4 : cosOfE b b = (d, 0))
    (E5 : sinOfE (a + b) (a + b) = (u, 0)) (E6 : cosOfE (a + b) (a + b) = (v, 0)) (E7 : sinOfE (a + 360000000) (a + 360000000) = (s, 0)) (E8 : sinOfE (a + 90000000) (a + 90000000) = (c, 0))
    (fs : Fit s) (fc : Fit c) (ft : Fit t) (fd : Fit d) (fu : Fit u) (fv : Fit v) (wds : s.2 - s.1 ≤ 1) (wdc : c.2 - c.1 ≤ 1)
    (m1 : meetB (sumE (sqE s) (sqE c)) (10000000000000000, 10000000000000000) = true)
    (m2 : meetB (u.1 * 100000000, u.2 * 100000000) (sumE (prodE s d) (prodE c t)) = true)
    (m3 : meetB (v.1 * 100000000, v.2 * 100000000) ((prodE c d).1 - (prodE s t).2, (prodE c d).2 - (prodE s t).1) = true) :
    Calls Tryd.prog 7 #[.int .i64 a, .int .i64 b] w fun e w' => e = .returned (.bool true) ∧ Below w.heap.size w w' := by
  have HM := Lib.hid hm
  have HP := Lib.hid hp
  have F1 := Lib.hid E1
  have F2 := Lib.hid E2
  have F3 := Lib.hid E3
  have F4 := Lib.hid E4
  have F5 := Lib.hid E5
  have F6 := Lib.hid E6
  have F7 := Lib.hid E7
  have F8 := Lib.hid E8
  have M1 := Lib.hid m1
  have M2 := Lib.hid m2
  have M3 := Lib.hid m3
  have FS := Lib.hid fs
  have FC := Lib.hid fc
  have FT := Lib.hid ft
  have FD := Lib.hid fd
  have FU := Lib.hid fu
  have FV := Lib.hid fv
  have s3 : s.1 ≤ s.2 := fs.2.1
  have c3 : c.1 ≤ c.2 := fc.2.1
  have W1 : Hid (IntKind.i64.wrap (s.2 - s.1) = s.2 - s.1) := Lib.hid (IntWalk.i64_in _ (by omega))
  have W2 : Hid (IntKind.i64.wrap (c.2 - c.1) = c.2 - c.1) := Lib.hid (IntWalk.i64_in _ (by omega))
  clear hm hp E1 E2 E3 E4 E5 E6 E7 E8 m1 m2 m3 fs fc ft fd fu fv
  go_enter Tryd.func7, Tryd.ntmps7
  go_wp2_with fail
  refine (sin_any a _).mono ?_
  rw [F1.out]
  unfold pairV
  rintro e w1 ⟨rfl, hB1⟩
  simp only
  have S1 := Slot2.new w1 (.int .i64 s.1) (.int .i64 s.2) 23
  have k1 := below_alloc hB1 (.cells #[.int .i64 s.1, .int .i64 s.2] 23)
  clear hB1 F1
  go_wp2_with fail
  refine (cos_any a _).mono ?_
  rw [F2.out]
  unfold pairV
  rintro e w2 ⟨rfl, hB2⟩
  simp only
  have S1 := (S1.next hB2).alloc (.cells #[.int .i64 c.1, .int .i64 c.2] 23)
  have S2 := Slot2.new w2 (.int .i64 c.1) (.int .i64 c.2) 23
  have k2 := below_alloc (below_next k1 hB2) (.cells #[.int .i64 c.1, .int .i64 c.2] 23)
  clear hB2 k1 F2
  go_wp2_with fail
  refine (sin_any b _).mono ?_
  rw [F3.out]
  unfold pairV
  rintro e w3 ⟨rfl, hB3⟩
  simp only
  have S1 := (S1.next hB3).alloc (.cells #[.int .i64 t.1, .int .i64 t.2] 23)
  have S2 := (S2.next hB3).alloc (.cells #[.int .i64 t.1, .int .i64 t.2] 23)
  have S3 := Slot2.new w3 (.int .i64 t.1) (.int .i64 t.2) 23
  have k3 := below_alloc (below_next k2 hB3) (.cells #[.int .i64 t.1, .int .i64 t.2] 23)
  clear hB3 k2 F3
  go_wp2_with fail
  refine (cos_any b _).mono ?_
  rw [F4.out]
  unfold pairV
  rintro e w4 ⟨rfl, hB4⟩
  simp only
  have S1 := (S1.next hB4).alloc (.cells #[.int .i64 d.1, .int .i64 d.2] 23)
  have S2 := (S2.next hB4).alloc (.cells #[.int .i64 d.1, .int .i64 d.2] 23)
  have S3 := (S3.next hB4).alloc (.cells #[.int .i64 d.1, .int .i64 d.2] 23)
  have S4 := Slot2.new w4 (.int .i64 d.1) (.int .i64 d.2) 23
  have k4 := below_alloc (below_next k3 hB4) (.cells #[.int .i64 d.1, .int .i64 d.2] 23)
  clear hB4 k3 F4
  have Q4 : Hid (Four4 w (w4.alloc (.cells #[.int .i64 d.1, .int .i64 d.2] 23)) w1.heap.size w2.heap.size w3.heap.size w4.heap.size s c t d) := Lib.hid ⟨k4, S1, S2, S3, S4⟩
  clear S1 S2 S3 S4 k4
  have d1 : decide (1 < s.2 - s.1) = false := decide_eq_false (by omega)
  have d2 : decide (1 < c.2 - c.1) = false := decide_eq_false (by omega)
  have d3 : decide (s.2 < s.1) = false := decide_eq_false (by omega)
  have d4 : decide (c.2 < c.1) = false := decide_eq_false (by omega)
  have v1 := W1.out
  have v2 := W2.out
  have q := Q4.out
  obtain ⟨_, ⟨x0, x1, x2, _, _⟩, ⟨y0, y1, y2, _, _⟩, _, _⟩ := q
  go_upto_region 9 with (fail)
  clear x0 x1 x2 y0 y1 y2 v1 v2 d1 d2 d3 d4
  have BS := Lib.hid (sq_bd (p := (s.1, s.2)) FS.out)
  have BC := Lib.hid (sq_bd (p := (c.1, c.2)) FC.out)
  generalize w4.alloc (.cells #[.int .i64 d.1, .int .i64 d.2] 23) = W at *
  have QK := Q4
  go_cut [103] (fun u wx => u = .bool false ∧ Four4 w wx w1.heap.size w2.heap.size w3.heap.size w4.heap.size s c t d)
  case first =>
    clear wds wdc s3 c3 W1 W2 a0 a1 b0 b1 F5 F6 F7 F8 M2 M3 FT FD FU FV HM HP
    obtain ⟨_, ⟨_, p0, p1, _, _⟩, ⟨_, q0, q1, _, _⟩, _, _⟩ := QK.out
    go_region_held3 (fun w' => w'.cell? ⟨w1.heap.size, 0, none⟩ = some (.int .i64 s.1) ∧ w'.cell? ⟨w1.heap.size, 1, none⟩ = some (.int .i64 s.2) ∧ w'.cell? ⟨w2.heap.size, 0, none⟩ = some (.int .i64 c.1) ∧ w'.cell? ⟨w2.heap.size, 1, none⟩ = some (.int .i64 c.2))
      ((go_split_ands; (repeat' apply And.intro) <;> (first | assumption | (go_keep; done))))
      (first
      | (go_at_call 43; refine (csq _ _ (by first | exact FS.out | exact FC.out) _).mono ?_; rintro e wN ⟨rfl, hN⟩; have QK := Lib.hid (QK.out.next (by first | exact hN | exact undrew hN)); obtain ⟨_, ⟨_, p0, p1, _, _⟩, ⟨_, q0, q1, _, _⟩, _, _⟩ := QK.out)
      | (go_at_call 42; refine (csu _ _ _ _ (by have := BS.out; have := BC.out; omega) (by have := BS.out; have := BC.out; omega) (by have := BS.out; have := BC.out; omega) (by have := BS.out; have := BC.out; omega) _).mono ?_; rintro e wN ⟨rfl, hN⟩; have QK := Lib.hid (QK.out.next (by first | exact hN | exact undrew hN)); obtain ⟨_, ⟨_, p0, p1, _, _⟩, ⟨_, q0, q1, _, _⟩, _, _⟩ := QK.out)
      | (go_at_call 41; refine (cme _ _ _ _ M1.out _).mono ?_; rintro e wN ⟨rfl, hN⟩; have QK := Lib.hid (QK.out.next (by first | exact hN | exact undrew hN)); obtain ⟨_, ⟨_, p0, p1, _, _⟩, ⟨_, q0, q1, _, _⟩, _, _⟩ := QK.out)
      )
    go_wp2_with fail
    go_meet
    exact ⟨rfl, QK.out⟩
  case rest =>
    obtain ⟨rfl, q4⟩ := hcut
    clear Q4 QK BS BC M1
    have wab : IntKind.i64.wrap (a + b) = a + b := IntWalk.i64_in _ (by omega)
    go_wp2_with fail
    refine (sin_any (a + b) _).mono ?_
    rw [F5.out]
    unfold pairV
    rintro e w5 ⟨rfl, hB5⟩
    simp only
    have O5 : Hid (w.heap.size ≤ w5.heap.size ∧ w1.heap.size < w5.heap.size ∧ w2.heap.size < w5.heap.size ∧ w3.heap.size < w5.heap.size ∧ w4.heap.size < w5.heap.size) :=
      Lib.hid ⟨(q4.next hB5).1.size, (q4.next hB5).2.1.lies, (q4.next hB5).2.2.1.lies, (q4.next hB5).2.2.2.1.lies, (q4.next hB5).2.2.2.2.lies⟩
    have Q5 := Lib.hid ((q4.next hB5).next (alloc_below w5 (.cells #[.int .i64 u.1, .int .i64 u.2] 23)))
    have S5 := Lib.hid (Slot2.new w5 (.int .i64 u.1) (.int .i64 u.2) 23)
    clear q4 hB5 F5
    go_wp2_with fail
    refine (cos_any (a + b) _).mono ?_
    rw [F6.out]
    unfold pairV
    rintro e w6 ⟨rfl, hB6⟩
    simp only
    have O6 : Hid (w5.heap.size < w6.heap.size) := Lib.hid (S5.out.next hB6).lies
    have Q6 : Hid (Six4 w (w6.alloc (.cells #[.int .i64 v.1, .int .i64 v.2] 23)) w1.heap.size w2.heap.size w3.heap.size w4.heap.size w5.heap.size w6.heap.size s c t d u v) :=
      Lib.hid ⟨(Q5.out.next hB6).next (alloc_below w6 _), (S5.out.next hB6).alloc _, Slot2.new w6 _ _ _⟩
    clear Q5 S5 hB6 F6
    go_upto_region 13 with (fail)
    generalize w6.alloc (.cells #[.int .i64 v.1, .int .i64 v.2] 23) = W6 at *
    have QK := Q6
    go_cut [141] (fun x wx => x = .bool false ∧ Six4 w wx w1.heap.size w2.heap.size w3.heap.size w4.heap.size w5.heap.size w6.heap.size s c t d u v)
    case first =>
      have BP := Lib.hid (prod_bd (p := (s.1, s.2)) (q := (d.1, d.2)) FS.out FD.out)
      have BQ := Lib.hid (prod_bd (p := (c.1, c.2)) (q := (t.1, t.2)) FC.out FT.out)
      have g1 : IntKind.i64.wrap (u.1 * 100000000) = u.1 * 100000000 := IntWalk.i64_in _ (by have := FU.out; unfold Fit at this; omega)
      have g2 : IntKind.i64.wrap (u.2 * 100000000) = u.2 * 100000000 := IntWalk.i64_in _ (by have := FU.out; unfold Fit at this; omega)
      clear wds wdc s3 c3 W1 W2 a0 a1 b0 b1 F7 F8 M3 FU FV HM HP wab Q6
      obtain ⟨⟨_, ⟨_, p0, p1, _, _⟩, ⟨_, p2, p3, _, _⟩, ⟨_, p4, p5, _, _⟩, ⟨_, p6, p7, _, _⟩⟩, ⟨_, q0, q1, _, _⟩, _⟩ := QK.out
      go_region_held3 (fun w' => w'.cell? ⟨w1.heap.size, 0, none⟩ = some (.int .i64 s.1) ∧ w'.cell? ⟨w1.heap.size, 1, none⟩ = some (.int .i64 s.2) ∧ w'.cell? ⟨w2.heap.size, 0, none⟩ = some (.int .i64 c.1) ∧ w'.cell? ⟨w2.heap.size, 1, none⟩ = some (.int .i64 c.2) ∧
          w'.cell? ⟨w3.heap.size, 0, none⟩ = some (.int .i64 t.1) ∧ w'.cell? ⟨w3.heap.size, 1, none⟩ = some (.int .i64 t.2) ∧ w'.cell? ⟨w4.heap.size, 0, none⟩ = some (.int .i64 d.1) ∧ w'.cell? ⟨w4.heap.size, 1, none⟩ = some (.int .i64 d.2) ∧
          w'.cell? ⟨w5.heap.size, 0, none⟩ = some (.int .i64 u.1) ∧ w'.cell? ⟨w5.heap.size, 1, none⟩ = some (.int .i64 u.2))
        ((go_split_ands; (repeat' apply And.intro) <;> (first | assumption | (go_keep; done))))
        (first
        | (go_at_call 44; refine (cpr _ _ _ _ (by first | exact FS.out | exact FC.out) (by first | exact FD.out | exact FT.out) _).mono ?_; rintro e wN ⟨rfl, hN⟩; have QK := Lib.hid (QK.out.next (by first | exact hN | exact undrew hN)); obtain ⟨⟨_, ⟨_, p0, p1, _, _⟩, ⟨_, p2, p3, _, _⟩, ⟨_, p4, p5, _, _⟩, ⟨_, p6, p7, _, _⟩⟩, ⟨_, q0, q1, _, _⟩, _⟩ := QK.out)
        | (go_at_call 42; refine (csu _ _ _ _ (by have := BP.out; have := BQ.out; omega) (by have := BP.out; have := BQ.out; omega) (by have := BP.out; have := BQ.out; omega) (by have := BP.out; have := BQ.out; omega) _).mono ?_; rintro e wN ⟨rfl, hN⟩; have QK := Lib.hid (QK.out.next (by first | exact hN | exact undrew hN)); obtain ⟨⟨_, ⟨_, p0, p1, _, _⟩, ⟨_, p2, p3, _, _⟩, ⟨_, p4, p5, _, _⟩, ⟨_, p6, p7, _, _⟩⟩, ⟨_, q0, q1, _, _⟩, _⟩ := QK.out)
        | (go_at_call 41; refine (cme _ _ _ _ M2.out _).mono ?_; rintro e wN ⟨rfl, hN⟩; have QK := Lib.hid (QK.out.next (by first | exact hN | exact undrew hN)); obtain ⟨⟨_, ⟨_, p0, p1, _, _⟩, ⟨_, p2, p3, _, _⟩, ⟨_, p4, p5, _, _⟩, ⟨_, p6, p7, _, _⟩⟩, ⟨_, q0, q1, _, _⟩, _⟩ := QK.out)
        )
      go_wp2_with fail
      go_meet
      exact ⟨rfl, QK.out⟩
    case rest =>
      obtain ⟨rfl, q6⟩ := hcut
      clear Q6 QK M2 wab
      have q6' := q6
      obtain ⟨⟨hb, ⟨l1, p0, p1, _, _⟩, ⟨l2, p2, p3, _, _⟩, ⟨l3, p4, p5, _, _⟩, ⟨l4, p6, p7, _, _⟩⟩, ⟨l5, q0, q1, _, _⟩, l6, _, _, _, _⟩ := q6'
      have l0 := hb.size
      clear hb
      have HQ := Lib.hid q6
      clear q6
      obtain ⟨F, G, hFG, CP⟩ := cpr_fn
      have CPP := Lib.hid CP
      have HFG := Lib.hid hFG
      clear CP hFG
      go_upto_region 15 with (fail)
      have QK := Lib.hid (ownC_of HQ.out)
      go_cut [15, 16] (fun x y wx => ∃ b1 b2 : Nat, x = .pointer (some ⟨b1, 0, none⟩) ∧ y = .pointer (some ⟨b2, 0, none⟩) ∧ Six4 w wx w1.heap.size w2.heap.size w3.heap.size w4.heap.size w5.heap.size w6.heap.size s c t d u v ∧
        Slot2 wx b1 (.int .i64 (F c.1 c.2 d.1 d.2)) (.int .i64 (G c.1 c.2 d.1 d.2)) ∧ Slot2 wx b2 (.int .i64 (F s.1 s.2 t.1 t.2)) (.int .i64 (G s.1 s.2 t.1 t.2)))
      case first => as_aux_lemma =>
        clear wds wdc s3 c3 W1 W2 a0 a1 b0 b1 F7 F8 FU FV HM HP O5 O6 M3 HFG l5 l6 q0 q1 l0
        go_region_held3 (fun w' => w'.cell? ⟨w1.heap.size, 0, none⟩ = some (.int .i64 s.1) ∧ w'.cell? ⟨w1.heap.size, 1, none⟩ = some (.int .i64 s.2) ∧ w'.cell? ⟨w2.heap.size, 0, none⟩ = some (.int .i64 c.1) ∧ w'.cell? ⟨w2.heap.size, 1, none⟩ = some (.int .i64 c.2) ∧
            w'.cell? ⟨w3.heap.size, 0, none⟩ = some (.int .i64 t.1) ∧ w'.cell? ⟨w3.heap.size, 1, none⟩ = some (.int .i64 t.2) ∧ w'.cell? ⟨w4.heap.size, 0, none⟩ = some (.int .i64 d.1) ∧ w'.cell? ⟨w4.heap.size, 1, none⟩ = some (.int .i64 d.2))
          ((go_split_ands; (repeat' apply And.intro) <;> (repeat' (first | with_reducible assumption | with_reducible exact own_s0 QK.out | with_reducible exact own_s1 QK.out | with_reducible exact own_c0 QK.out | with_reducible exact own_c1 QK.out | with_reducible exact own_t0 QK.out | with_reducible exact own_t1 QK.out | with_reducible exact own_d0 QK.out | with_reducible exact own_d1 QK.out | with_reducible refine ck_drew ?_ | with_reducible refine ck_alloc ?_ | (with_reducible refine ck_set ?_ ?hne; case hne => (dsimp only; omega))))))
          (first
          | (go_at_call 44; refine (CPP.out _ _ _ _ (by first | exact FC.out | exact FS.out) (by first | exact FD.out | exact FT.out) _).mono ?_; rintro e wN ⟨rfl, hN⟩
             first | with_reducible replace hN := undrew2 hN | skip
             have hsz := hN.size
             try simp only [World.size_alloc] at hsz
             have QK := Lib.hid (QK.out.next (below_next (by repeat' (first | with_reducible exact Below.refl _ _ | with_reducible refine below_alloc ?_ _ | with_reducible refine below_drew ?_)) hN))
             first
               | (with_reducible have ZC := Lib.hid (Slot2.next (Slot2.alloc (Slot2.new _ (.int .i64 0) (.int .i64 0) 39) (.cells #[.int .i64 0, .int .i64 0] 39)) hN); (try simp only [World.size_alloc] at ZC); obtain ⟨_, zc0, zc1, zc2, zc3⟩ := ZC.out; with_reducible have ZD := Lib.hid (Slot2.next (Slot2.new _ (.int .i64 0) (.int .i64 0) 39) hN); (try simp only [World.size_alloc] at ZD); obtain ⟨_, zd0, zd1, zd2, zd3⟩ := ZD.out)
               | (with_reducible have ZC := Lib.hid ((ZD.out.alloc (.cells #[.int .i64 0, .int .i64 0] 39)).next hN); (try simp only [World.size_alloc] at ZC); obtain ⟨_, zc0, zc1, zc2, zc3⟩ := ZC.out; with_reducible have ZD := Lib.hid (Slot2.next (Slot2.new _ (.int .i64 0) (.int .i64 0) 39) hN); (try simp only [World.size_alloc] at ZD); obtain ⟨_, zd0, zd1, zd2, zd3⟩ := ZD.out)
               | (with_reducible have ZD := Lib.hid (Slot2.next (Slot2.new _ (.int .i64 0) (.int .i64 0) 39) hN); (try simp only [World.size_alloc] at ZD); obtain ⟨_, zd0, zd1, zd2, zd3⟩ := ZD.out; first | (with_reducible have ZC := Lib.hid ((ZC.out.alloc _).next hN); (try simp only [World.size_alloc] at ZC); obtain ⟨_, zc0, zc1, zc2, zc3⟩ := ZC.out) | skip)
               | (with_reducible have ZD := Lib.hid (ZD.out.next hN); (try simp only [World.size_alloc] at ZD); obtain ⟨_, zd0, zd1, zd2, zd3⟩ := ZD.out; first | (with_reducible have ZC := Lib.hid (ZC.out.next hN); (try simp only [World.size_alloc] at ZC); obtain ⟨_, zc0, zc1, zc2, zc3⟩ := ZC.out) | skip)
               | skip
             first
               | (have zdA := fun o => ZD.out.alloc o
                  have zdA0 := fun o => (zdA o).cell0; have zdA1 := fun o => (zdA o).cell1; have zdA2 := fun o => (zdA o).free0; have zdA3 := fun o => (zdA o).free1
                  have zdN0 := fun o p q => (new_apart ZD.out o p q).cell0; have zdN1 := fun o p q => (new_apart ZD.out o p q).cell1; have zdN2 := fun o p q => (new_apart ZD.out o p q).free0; have zdN3 := fun o p q => (new_apart ZD.out o p q).free1)
               | skip
             first
               | (have hcd := pair_apart ZC.out ZD.out (by first | omega | (simp only [World.size_alloc]; omega))
                  have hdc := pair_apart ZD.out ZC.out (by first | omega | (simp only [World.size_alloc]; omega))
                  have zs0 := fun p q => (hcd p q).cell0; have zs1 := fun p q => (hcd p q).cell1; have zs2 := fun p q => (hcd p q).free0; have zs3 := fun p q => (hcd p q).free1
                  have zr0 := fun p q => (hdc p q).cell0; have zr1 := fun p q => (hdc p q).cell1; have zr2 := fun p q => (hdc p q).free0; have zr3 := fun p q => (hdc p q).free1)
               | skip)
          | fail)
        all_goals as_aux_lemma =>
          (go_wp2_with fail; go_meet)
          refine ⟨_, _, rfl, rfl, Six4.next HQ.out ?_, ?_, ?_⟩
          all_goals (repeat' (first | with_reducible exact own_low QK.out | with_reducible exact ZC.out | with_reducible exact ZD.out | with_reducible exact Slot2.new _ _ _ _ | exact slot_newAt _ _ _ _ _ (by first | (simp only [World.size_alloc]; done) | (simp; done)) | with_reducible apply slot_drew | with_reducible apply below_drew | with_reducible apply below_alloc | with_reducible apply Slot2.both | with_reducible apply Slot2.apart | with_reducible apply Slot2.alloc | (with_reducible refine bl_set ?_ (by omega) _) | omega | fail))
      case rest =>
        obtain ⟨n1, n2, rfl, rfl, q7, P1, P2⟩ := hcut
        clear HQ QK p0 p1 p2 p3 p4 p5 p6 p7 q0 q1 l0 l1 l2 l3 l4 l5 l6 CPP
        rw [(HFG.out _ _ _ _).1, (HFG.out _ _ _ _).2] at P1 P2
        clear HFG
        have H7 := Lib.hid q7
        have G1 := Lib.hid P1
        have G2 := Lib.hid P2
        clear q7 P1 P2
        have BP := prod_bd (p := (c.1, c.2)) (q := (d.1, d.2)) FC.out FD.out
        have BQ := prod_bd (p := (s.1, s.2)) (q := (t.1, t.2)) FS.out FT.out
        have FV' := FV.out
        have M3' := Lib.hid (show meetB (v.1 * 100000000, v.2 * 100000000) ((prodE (c.1, c.2) (d.1, d.2)).1 - (prodE (s.1, s.2) (t.1, t.2)).2, (prodE (c.1, c.2) (d.1, d.2)).2 - (prodE (s.1, s.2) (t.1, t.2)).1) = true from M3.out)
        unfold Fit at FV'
        generalize prodE (c.1, c.2) (d.1, d.2) = P at *
        generalize prodE (s.1, s.2) (t.1, t.2) = Q at *
        have g1 : IntKind.i64.wrap (v.1 * 100000000) = v.1 * 100000000 := IntWalk.i64_in _ (by omega)
        have g2 : IntKind.i64.wrap (v.2 * 100000000) = v.2 * 100000000 := IntWalk.i64_in _ (by omega)
        have g3 : IntKind.i64.wrap (P.1 - Q.2) = P.1 - Q.2 := IntWalk.i64_in _ (by omega)
        have g4 : IntKind.i64.wrap (P.2 - Q.1) = P.2 - Q.1 := IntWalk.i64_in _ (by omega)
        clear FV' BP BQ
        obtain ⟨_, _, ⟨_, q0, q1, _, _⟩⟩ := H7.out
        obtain ⟨_, x0, x1, _, _⟩ := G1.out
        obtain ⟨_, y0, y1, _, _⟩ := G2.out
        clear G1 G2
        go_wp2_with fail
        refine (cme _ _ _ _ M3'.out _).mono ?_
        rintro e w7 ⟨rfl, hN⟩
        have q8 := H7.out.next hN
        clear H7 hN q0 q1 x0 x1 y0 y1 g1 g2 g3 g4 M3 M3'
        have wat : IntKind.i64.wrap (a + 360000000) = a + 360000000 := IntWalk.i64_in _ (by omega)
        have wah : IntKind.i64.wrap (a + 90000000) = a + 90000000 := IntWalk.i64_in _ (by omega)
        go_wp2_with fail
        refine (sin_any (a + 360000000) _).mono ?_
        rw [F7.out]
        unfold pairV
        rintro e w8 ⟨rfl, hB8⟩
        simp only
        have o5 := O5.out
        have o6 := O6.out
        have h8 := q8.next hB8
        have H8 := Lib.hid (six_u h8 (by omega) (by omega) (by omega) (by omega) (by omega) (by omega) s)
        obtain ⟨_, ⟨z0, z1, z2, z3, z4⟩, _⟩ := h8
        clear q8 hB8 F7 o5 o6
        go_wp2_with fail
        refine (sin_any (a + 90000000) _).mono ?_
        rw [F8.out]
        unfold pairV
        rintro e w9 ⟨rfl, hB9⟩
        simp only
        have o5 := O5.out
        have o6 := O6.out
        have h9 := H8.out.next hB9
        have H9 := Lib.hid (six_v h9 (by omega) (by omega) (by omega) (by omega) (by omega) (by omega) c)
        clear z0 z1 z2 z3 z4
        obtain ⟨_, _, z0, z1, z2, z3, z4⟩ := h9
        clear H8 hB9 F8 o5 o6 wat wah
        have hs := fun w => run_eqE s.1 s.2 w
        have hc := fun w => run_eqE c.1 c.2 w
        obtain ⟨⟨_, ⟨_, p0, p1, _, _⟩, ⟨_, p2, p3, _, _⟩, _⟩, ⟨_, q0, q1, _, _⟩, ⟨_, q2, q3, _, _⟩⟩ := H9.out
        clear FS FC FT FD FU FV a0 a1 b0 b1 wds wdc s3 c3 W1 W2
        have HB := Lib.hid H9.out.1.1
        go_wp2_with fail
        refine (awake_any _ (HM.out.below HB.out) (HP.out.below HB.out)).mono ?_
        rintro e wN ⟨rfl, hN⟩
        have HZ := Lib.hid (below_next HB.out hN)
        go_wp2_with fail
        go_ret
        exact ⟨rfl, HZ.out⟩
end Go.Proofs.YtnjedigjabijcaaDoor
