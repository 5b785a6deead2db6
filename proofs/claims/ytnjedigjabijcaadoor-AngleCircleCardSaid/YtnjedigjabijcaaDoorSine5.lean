import Derived.Test.YtnjedigjabijcaaDoorSine4
namespace Go.Proofs.YtnjedigjabijcaaDoor
open Go Go.RowKit

/-- Joining one more. -/
def hullS (p q : Int × Int) : Int × Int := (min p.1 q.1, max p.2 q.2)
/-- Joining all. -/
def hullL (p : Int × Int) (l : List (Int × Int)) : Int × Int := l.foldl hullS p
theorem hullL_take (p : Int × Int) (l : List (Int × Int)) (k : Nat) (h : k < l.length) : hullL p (l.take (k + 1)) = hullS (hullL p (l.take k)) l[k] := by
  unfold hullL
  rw [List.take_succ_eq_append_getElem h, List.foldl_append]
  rfl

/-- Enclosures that lie one behind the other. -/
def Row2 (V : World) (b off : Nat) (l : List (Int × Int)) : Prop :=
  b < V.heap.size ∧ ∀ i (h : i < l.length), V.cell? ⟨b, off + i * 2, none⟩ = some (.int .i64 l[i].1) ∧ V.cell? ⟨b, off + i * 2 + 1, none⟩ = some (.int .i64 l[i].2)
theorem Row2.below {V V' : World} {b off B : Nat} {l : List (Int × Int)} (h : Row2 V b off l) (hB : Below B V V') (hb : b < B) : Row2 V' b off l :=
  ⟨Nat.lt_of_lt_of_le h.1 hB.size, fun i hi => ⟨by rw [hB.cell hb]; exact (h.2 i hi).1, by rw [hB.cell hb]; exact (h.2 i hi).2⟩⟩

def HullRel (w : World) (p : Int × Int) (l : List (Int × Int)) (i : Value) (wr : World) : Prop :=
  ∃ k : Nat, k ≤ l.length ∧ i = .int .i64 k ∧ Below w.heap.size w wr ∧ Slot2 wr w.heap.size (.int .i64 (hullL p (l.take k)).1) (.int .i64 (hullL p (l.take k)).2) ∧ Slot2 wr (w.heap.size + 1) (.int .i64 0) (.int .i64 0)

theorem min_if (p q : Int) : (if q < p then q else p) = min p q := by split <;> omega
theorem max_if (p q : Int) : (if p < q then q else p) = max p q := by split <;> omega
theorem hull_step {w wr : World} {p : Int × Int} {l : List (Int × Int)} {k : Nat} (h : k < l.length) (hB : Below w.heap.size w wr)
    (T0 : Slot2 wr w.heap.size (.int .i64 (hullL p (l.take k)).1) (.int .i64 (hullL p (l.take k)).2)) (T1 : Slot2 wr (w.heap.size + 1) (.int .i64 0) (.int .i64 0)) (o : Obj) :
    HullRel w p l (.int .i64 ((k : Int) + 1)) (((wr.setCell ⟨w.heap.size, 0, none⟩ (.int .i64 (if l[k].1 < (hullL p (l.take k)).1 then l[k].1 else (hullL p (l.take k)).1))).setCell ⟨w.heap.size, 1, none⟩
      (.int .i64 (if (hullL p (l.take k)).2 < l[k].2 then l[k].2 else (hullL p (l.take k)).2))).alloc o) := by
  rw [min_if, max_if]
  have hz := hB.size
  refine ⟨k + 1, h, by go_num, ?_, ?_, ?_⟩
  · exact ((hB.setCell (by simp) _).setCell (by simp) _).alloc (by simpa using hz) _
  · rw [hullL_take p l k h]
    exact ((T0.set0 _).set1 _).alloc o
  · exact ((T1.far _ (by simp) _).far _ (by simp) _).alloc o
theorem hullL_all (p : Int × Int) (l : List (Int × Int)) (k : Nat) (h : l.length ≤ k) : hullL p (l.take k) = hullL p l := by rw [List.take_of_length_le h]

set_option maxHeartbeats 1000000 in
theorem hull_any (x y : Int) (b off cap : Nat) (l : List (Int × Int)) (hl : l.length ≤ 1000) (w : World) (hr : Row2 w b off l) :
    Calls Tryd.prog 76 #[.agg #[.int .i64 x, .int .i64 y], .slice (some ⟨b, off, none⟩) l.length cap] w
      fun e w' => e = .returned (.agg #[.int .i64 (hullL (x, y) l).1, .int .i64 (hullL (x, y) l).2]) ∧ Below w.heap.size w w' := by
  have S0 := (Slot2.new w (.int .i64 x) (.int .i64 y) 23).alloc (.cells #[.int .i64 0, .int .i64 0] 23)
  have S1 := Slot2.new (w.alloc (.cells #[.int .i64 x, .int .i64 y] 23)) (.int .i64 0) (.int .i64 0) 23
  simp only [World.size_alloc] at S1
  go_enter Tryd.func76, Tryd.ntmps76
  go_wp2
  go_loopw [9] (fun i wr => HullRel w (x, y) l i wr) (fun i wr => l.length - (intOf i).toNat)
  case atStart => exact ⟨0, Nat.zero_le _, rfl, by go_grown, S0, S1⟩
  case round =>
    obtain ⟨k, hk, rfl, hB, T0, T1⟩ := hrel
    by_cases hlt : k < l.length
    · obtain ⟨c0, c1⟩ := (hr.below hB hr.1).2 k hlt
      have hz := hB.size
      have F := Lib.hid (hull_step hlt hB T0 T1)
      obtain ⟨lies0, k0, k1, f0, f1⟩ := T0
      clear S0 S1 T1
      go_wp2
      go_roundw
      case rel => exact F.out _
      case measure => simp [intOf]; omega
    · rw [hullL_all (x, y) l k (by omega)] at T0
      have F1 := (T1.set0 (.int .i64 (hullL (x, y) l).1)).set1 (.int .i64 (hullL (x, y) l).2)
      obtain ⟨lies0, k0, k1, f0, f1⟩ := T0
      obtain ⟨lies1, m0, m1, g0, g1⟩ := T1
      clear S0 S1
      go_wp2
      refine bodyPost_ret (v := .agg #[.int .i64 (hullL (x, y) l).1, .int .i64 (hullL (x, y) l).2]) (by simp [results, Tryd.results76, go_sem, F1.cell0, F1.cell1]) rfl ⟨rfl, ?_⟩
      exact (hB.setCell (by simp) _).setCell (by simp) _
end Go.Proofs.YtnjedigjabijcaaDoor
