import Derived.Test.YtnjedigjabijcaaDoorSine2
namespace Go.Proofs.YtnjedigjabijcaaDoor
open Go Go.RowKit

/-- A block of two cells, which may be written. -/
structure Slot2 (V : World) (b : Nat) (x y : Value) : Prop where
  lies : b < V.heap.size
  cell0 : V.cell? ⟨b, 0, none⟩ = some x
  cell1 : V.cell? ⟨b, 1, none⟩ = some y
  free0 : V.frozen? ⟨b, 0, none⟩ = false
  free1 : V.frozen? ⟨b, 1, none⟩ = false

theorem Slot2.new (V : World) (x y : Value) (T : TypeId) : Slot2 (V.alloc (.cells #[x, y] T)) V.heap.size x y := by
  refine ⟨by simp, ?_, ?_, ?_, ?_⟩
  · rw [World.cell?_alloc_at _ _ _ _ (by simp)]; rfl
  · rw [World.cell?_alloc_at _ _ _ _ (by simp)]; rfl
  · simp [go_sem]
  · simp [go_sem]
theorem Slot2.below {V V' : World} {b B : Nat} {x y : Value} (h : Slot2 V b x y) (hB : Below B V V') (hb : b < B) : Slot2 V' b x y :=
  ⟨Nat.lt_of_lt_of_le h.lies hB.size, by rw [hB.cell hb, h.cell0], by rw [hB.cell hb, h.cell1], by rw [hB.frozen hb, h.free0], by rw [hB.frozen hb, h.free1]⟩

theorem Slot2.set0 {V : World} {b : Nat} {x y : Value} (h : Slot2 V b x y) (z : Value) : Slot2 (V.setCell ⟨b, 0, none⟩ z) b z y :=
  ⟨by simpa using h.lies, World.cell?_setCell_same _ _ _ h.cell0, by rw [World.cell?_setCell_other (h := by simp), h.cell1], by rw [World.frozen?_setCell, h.free0], by rw [World.frozen?_setCell, h.free1]⟩
theorem Slot2.set1 {V : World} {b : Nat} {x y : Value} (h : Slot2 V b x y) (z : Value) : Slot2 (V.setCell ⟨b, 1, none⟩ z) b x z :=
  ⟨by simpa using h.lies, by rw [World.cell?_setCell_other (h := by simp), h.cell0], World.cell?_setCell_same _ _ _ h.cell1, by rw [World.frozen?_setCell, h.free0], by rw [World.frozen?_setCell, h.free1]⟩
theorem Slot2.far {V : World} {b : Nat} {x y : Value} (h : Slot2 V b x y) (p : Addr) (hp : p.block ≠ b) (z : Value) : Slot2 (V.setCell p z) b x y := by
  have hne : ∀ o, p ≠ ⟨b, o, none⟩ := fun o e => hp (by rw [e])
  exact ⟨by simpa using h.lies, by rw [World.cell?_setCell_other (h := hne 0), h.cell0], by rw [World.cell?_setCell_other (h := hne 1), h.cell1], by rw [World.frozen?_setCell, h.free0], by rw [World.frozen?_setCell, h.free1]⟩
theorem Slot2.alloc {V : World} {b : Nat} {x y : Value} (h : Slot2 V b x y) (o : Obj) : Slot2 (V.alloc o) b x y :=
  h.below ((Below.refl V.heap.size V).alloc (Nat.le_refl _) o) h.lies

theorem sineE_neg (a : Int) (hc : 180000000 ≤ a % 360000000) : sineE a = negE (halfT (a % 360000000 - 180000000)) := by unfold sineE; rw [if_pos hc]
theorem sineE_pos (a : Int) (hc : ¬ 180000000 ≤ a % 360000000) : sineE a = halfT (a % 360000000) := by unfold sineE; rw [if_neg hc]

set_option maxHeartbeats 1000000 in
/-- The sine of any angle. -/
theorem sine_any (a : Int) (_h0 : -9000000000 ≤ a) (_h1 : a ≤ 9000000000) (w : World) :
    Calls Tryd.prog 75 #[.int .i64 a] w fun e w' => e = .returned (.agg #[.int .i64 (sineE a).1, .int .i64 (sineE a).2]) ∧ Below w.heap.size w w' := by
  have n1 := norm_lo a
  have n2 := norm_eq a
  by_cases hc : 180000000 ≤ a % 360000000
  · have hb := halfT_top (a % 360000000 - 180000000) (by omega) (by omega)
    have E := Lib.hid (sineE_neg a hc)
    have S0 := Slot2.new w (.int .i64 0) (.int .i64 0) 23
    go_enter Tryd.func75, Tryd.ntmps75
    go_wp2_with fail
    refine (sine_half _ (by omega) (by omega) _).mono ?_
    rintro e w1 ⟨rfl, hB1⟩
    have S1 := S0.below hB1 (by simp)
    have hz1 := hB1.size
    simp only [World.size_alloc] at hz1 hB1
    go_wp2_with fail
    refine (negative_any _ _ (by omega) (by omega) _).mono ?_
    rintro e w2 ⟨rfl, hB2⟩
    have S2 := S1.below hB2 S1.lies
    have S3 := (S2.set0 (.int .i64 (-(halfT (a % 360000000 - 180000000)).2))).set1 (.int .i64 (-(halfT (a % 360000000 - 180000000)).1))
    obtain ⟨_, k0, k1, f0, f1⟩ := S2
    have hz2 := hB2.size
    go_wp2_with fail
    refine bodyPost_ret (v := .agg #[.int .i64 (-(halfT (a % 360000000 - 180000000)).2), .int .i64 (-(halfT (a % 360000000 - 180000000)).1)]) (by simp [results, Tryd.results75, go_sem, S3.cell0, S3.cell1]) rfl ?_
    refine ⟨ret_encl (by rw [E.out]; rfl) (by rw [E.out]; rfl), ?_⟩
    have hX := (((Below.refl w.heap.size w).alloc (Nat.le_refl _) (.cells #[.int .i64 0, .int .i64 0] 23)).trans (hB1.mono (by omega))).trans (hB2.mono (by omega))
    go_grown
  · have E := Lib.hid (sineE_pos a hc)
    have r0 := Int.emod_nonneg a (show (360000000 : Int) ≠ 0 by decide)
    generalize a % 360000000 = r at *
    have hb1 := hunN_le (fracN r.toNat)
    have hf1 := fracN_le r.toNat
    have hb2 := hunN_le (fracN (180000000 - r).toNat)
    have hf2 := fracN_le (180000000 - r).toNat
    go_enter Tryd.func75, Tryd.ntmps75
    go_wp2_with (first | (go_at_call 99; refine (fraction_any _ (by omega) (by omega) _).mono ?_; rintro e w' ⟨rfl, rfl⟩) | (go_at_call 98; refine (hundred_any _ (by first | exact hf1 (by omega) | exact hf2 (by omega)) _).mono ?_; rintro e w' ⟨⟨r, rfl⟩, rfl⟩))
    all_goals go_returns
    all_goals refine ⟨ret_encl ?_ ?_, by go_grown⟩
    all_goals go_light
    all_goals rw [E.out]
    all_goals clear E n1 n2
    all_goals (unfold halfT quarter; simp_all)
    all_goals (rw [if_neg (by omega)])
end Go.Proofs.YtnjedigjabijcaaDoor
