import Derived.Test.YtnjedigjabijcaaGreatDoorCorn2
import Derived.Test.YtnjedigjabijcaaGreatDoorBack
namespace Go.Proofs.YtnjedigjabijcaaGreatDoor
open Go Go.RowKit

theorem make_encls (w : World) : (Instr.makeSlice 56 (.int .i64 0) (.int .i64 4)).run Tryz.prog w = .ok (.slice (some ⟨w.heap.size, 0, none⟩) 0 4) (w.alloc (.cells #[.int .i64 0, .int .i64 0, .int .i64 0, .int .i64 0, .int .i64 0, .int .i64 0, .int .i64 0, .int .i64 0] 23)) := by kernel_rfl

theorem cs_zero (f : Nat) (x y : Int × Int) (w : World) :
    CS w ((((((w.alloc (.cells #[.int .i64 x.1, .int .i64 x.2] 23)).alloc (.cells #[.int .i64 y.1, .int .i64 y.2] 23)).alloc (.cells #[.func (.func f) #[] #[]] 27)).alloc (.cells #[.int .i64 0, .int .i64 0] 23)).alloc
      (.cells #[.int .i64 0, .int .i64 0, .int .i64 0, .int .i64 0, .int .i64 0, .int .i64 0, .int .i64 0, .int .i64 0] 23)).alloc (.cells #[.slice (some ⟨w.heap.size + 4, 0, none⟩) 0 4] 56)) x y f [] := by
  have k1 := below_alloc (alloc_below w (.cells #[.int .i64 x.1, .int .i64 x.2] 23)) (.cells #[.int .i64 y.1, .int .i64 y.2] 23)
  have k2 := below_alloc (below_alloc k1 (.cells #[.func (.func f) #[] #[]] 27)) (.cells #[.int .i64 0, .int .i64 0] 23)
  have k3 := below_alloc (below_alloc k2 (.cells #[.int .i64 0, .int .i64 0, .int .i64 0, .int .i64 0, .int .i64 0, .int .i64 0, .int .i64 0, .int .i64 0] 23)) (.cells #[.slice (some ⟨w.heap.size + 4, 0, none⟩) 0 4] 56)
  have sx := (((((Slot2.new w (.int .i64 x.1) (.int .i64 x.2) 23).alloc (.cells #[.int .i64 y.1, .int .i64 y.2] 23)).alloc (.cells #[.func (.func f) #[] #[]] 27)).alloc (.cells #[.int .i64 0, .int .i64 0] 23)).alloc
    (.cells #[.int .i64 0, .int .i64 0, .int .i64 0, .int .i64 0, .int .i64 0, .int .i64 0, .int .i64 0, .int .i64 0] 23)).alloc (.cells #[.slice (some ⟨w.heap.size + 4, 0, none⟩) 0 4] 56)
  have sy := ((((Slot2.new (w.alloc (.cells #[.int .i64 x.1, .int .i64 x.2] 23)) (.int .i64 y.1) (.int .i64 y.2) 23).alloc (.cells #[.func (.func f) #[] #[]] 27)).alloc (.cells #[.int .i64 0, .int .i64 0] 23)).alloc
    (.cells #[.int .i64 0, .int .i64 0, .int .i64 0, .int .i64 0, .int .i64 0, .int .i64 0, .int .i64 0, .int .i64 0] 23)).alloc (.cells #[.slice (some ⟨w.heap.size + 4, 0, none⟩) 0 4] 56)
  have sr := (((Slot2.new (((w.alloc (.cells #[.int .i64 x.1, .int .i64 x.2] 23)).alloc (.cells #[.int .i64 y.1, .int .i64 y.2] 23)).alloc (.cells #[.func (.func f) #[] #[]] 27)) (.int .i64 0) (.int .i64 0) 23).alloc
    (.cells #[.int .i64 0, .int .i64 0, .int .i64 0, .int .i64 0, .int .i64 0, .int .i64 0, .int .i64 0, .int .i64 0] 23))).alloc (.cells #[.slice (some ⟨w.heap.size + 4, 0, none⟩) 0 4] 56)
  simp only [World.size_alloc] at sy sr
  refine ⟨k3, sx, sy, ?_, sr, ?_, ?_, ?_, ?_⟩
  · simp [go_sem]
  · simp [go_sem]
  · simp [go_sem]
  · intro i hi
    refine ⟨?_, ?_⟩
    · have : i = 0 ∨ i = 1 ∨ i = 2 ∨ i = 3 ∨ i = 4 ∨ i = 5 ∨ i = 6 ∨ i = 7 := by omega
      rcases this with rfl | rfl | rfl | rfl | rfl | rfl | rfl | rfl <;> simp [go_sem]
    · simp [go_sem]
  · intro i hi
    simp at hi

set_option maxRecDepth 100000 in
set_option maxHeartbeats 4000000 in
theorem corners_any (f : Nat) (x y : Int × Int) (g : Int → Int → Int × Int) (w : World) (eg : ∀ args w, (callFunc f args).run Tryz.prog w = .ok (.enter f args) w)
    (hC : ∀ a b, (a = x.1 ∨ a = x.2) → (b = y.1 ∨ b = y.2) → ∀ V, Calls Tryz.prog f #[.int .i64 a, .int .i64 b] V fun e w' => e = .returned (.agg #[.int .i64 (g a b).1, .int .i64 (g a b).2]) ∧ Below V.heap.size V w') :
    Calls Tryz.prog 23 #[.agg #[.int .i64 x.1, .int .i64 x.2], .agg #[.int .i64 y.1, .int .i64 y.2], .func (.func f) #[] #[]] w
      fun e w' => e = .returned (.agg #[.int .i64 (hullL (g x.1 y.1) [g x.1 y.2, g x.2 y.1, g x.2 y.2]).1, .int .i64 (hullL (g x.1 y.1) [g x.1 y.2, g x.2 y.1, g x.2 y.2]).2]) ∧ Below w.heap.size w w' := by
  have hmk := make_encls
  have HC := Lib.hid hC
  clear hC
  go_enter Tryz.func23, Tryz.ntmps23
  go_wp2_with fail
  clear hmk
  refine (collect_cs f x.1 y.1 (g x.1 y.1) x y [] (by simp) w _ eg (HC.out _ _ (.inl rfl) (.inl rfl)) (cs_zero f x y w)).mono ?_
  rintro e w1 ⟨rfl, H1⟩
  have a0 := H1.sx.cell0
  have b1 := H1.sy.cell1
  have T1 := Lib.hid H1
  clear H1
  go_wp2_with fail
  refine (collect_cs f x.1 y.2 (g x.1 y.2) x y _ (by simp) w _ eg (HC.out _ _ (.inl rfl) (.inr rfl)) T1.out).mono ?_
  rintro e w2 ⟨rfl, H2⟩
  clear a0 b1 T1
  have a1 := H2.sx.cell1
  have b0 := H2.sy.cell0
  have T2 := Lib.hid H2
  clear H2
  go_wp2_with fail
  refine (collect_cs f x.2 y.1 (g x.2 y.1) x y _ (by simp) w _ eg (HC.out _ _ (.inr rfl) (.inl rfl)) T2.out).mono ?_
  rintro e w3 ⟨rfl, H3⟩
  clear a1 b0 T2
  have a1 := H3.sx.cell1
  have b1 := H3.sy.cell1
  have T3 := Lib.hid H3
  clear H3
  go_wp2_with fail
  refine (collect_cs f x.2 y.2 (g x.2 y.2) x y _ (by simp) w _ eg (HC.out _ _ (.inr rfl) (.inr rfl)) T3.out).mono ?_
  rintro e w4 ⟨rfl, H4⟩
  clear a1 b1 T3
  have row : Row2 w4.drew (w.heap.size + 4) 2 [g x.1 y.2, g x.2 y.1, g x.2 y.2] := by
    refine ⟨by have := H4.size; show w.heap.size + 4 < w4.heap.size; omega, fun i hi => ?_⟩
    have h := H4.held (i + 1) (by simp at hi ⊢; omega)
    have : i = 0 ∨ i = 1 ∨ i = 2 := by simp at hi; omega
    rcases this with rfl | rfl | rfl <;> exact h
  have ce : w4.cell? ⟨w.heap.size + 1 + 1 + 1 + 1 + 1, 0, none⟩ = some (.slice (some ⟨w.heap.size + 1 + 1 + 1 + 1, 0, none⟩) 4 4) := H4.ends
  have h0 : w4.cell? ⟨w.heap.size + 1 + 1 + 1 + 1, 0, none⟩ = some (.int .i64 (g x.1 y.1).1) := (H4.held 0 (by simp)).1
  have h1 : w4.cell? ⟨w.heap.size + 1 + 1 + 1 + 1, 1, none⟩ = some (.int .i64 (g x.1 y.1).2) := (H4.held 0 (by simp)).2
  have res : Slot2 w4 (w.heap.size + 1 + 1 + 1) (.int .i64 0) (.int .i64 0) := H4.res
  have HR := Lib.hid res
  have HB := Lib.hid H4.below
  have hh : Calls Tryz.prog 32 #[.agg #[.int .i64 (g x.1 y.1).1, .int .i64 (g x.1 y.1).2], .slice (some ⟨w.heap.size + 1 + 1 + 1 + 1, 2, none⟩) 3 3] w4.drew
      fun e w' => e = .returned (.agg #[.int .i64 (hullL (g x.1 y.1) [g x.1 y.2, g x.2 y.1, g x.2 y.2]).1, .int .i64 (hullL (g x.1 y.1) [g x.1 y.2, g x.2 y.1, g x.2 y.2]).2]) ∧ Below w4.drew.heap.size w4.drew w' :=
    hull_any (g x.1 y.1).1 (g x.1 y.1).2 (w.heap.size + 4) 2 3 [g x.1 y.2, g x.2 y.1, g x.2 y.2] (by simp) w4.drew row
  have HH := Lib.hid hh
  clear hh
  clear H4 res row
  generalize hq : hullL (g x.1 y.1) [g x.1 y.2, g x.2 y.1, g x.2 y.2] = q at *
  have E := Lib.hid hq
  clear hq
  go_upto_region 7 with (fail)
  go_region_with (first
    | (go_at_call 32; refine HH.out.mono ?_; rintro e w5 ⟨rfl, hB5⟩; have hB5' := undrew hB5; obtain ⟨_, r0, r1, rf0, rf1⟩ := HR.out.next hB5'))
  all_goals clear r0 r1 rf0 rf1
  all_goals have HZ := Lib.hid (below_both (below_next HB.out hB5') (by omega : w.heap.size ≤ w.heap.size + 1 + 1 + 1) (.int .i64 q.1) (.int .i64 q.2))
  all_goals have SF := (HR.out.next hB5').both (.int .i64 q.1) (.int .i64 q.2)
  all_goals clear hB5 hB5'
  all_goals (go_wp2_with fail)
  all_goals exact bodyPost_ret (v := .agg #[.int .i64 q.1, .int .i64 q.2]) (by simp [results, Tryz.results23, go_sem, SF.cell0, SF.cell1]) rfl ⟨by rw [E.out], HZ.out⟩
end Go.Proofs.YtnjedigjabijcaaGreatDoor
