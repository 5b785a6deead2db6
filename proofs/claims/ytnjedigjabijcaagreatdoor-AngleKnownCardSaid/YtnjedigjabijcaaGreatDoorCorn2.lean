import Derived.Test.YtnjedigjabijcaaGreatDoorCorn
namespace Go.Proofs.YtnjedigjabijcaaGreatDoor
open Go Go.RowKit

/-- What stands in memory while the corners are collected: B is the first block of the call's own. -/
structure CS (w V : World) (x y : Int × Int) (f : Nat) (l : List (Int × Int)) : Prop where
  below : Below w.heap.size w V
  sx : Slot2 V w.heap.size (.int .i64 x.1) (.int .i64 x.2)
  sy : Slot2 V (w.heap.size + 1) (.int .i64 y.1) (.int .i64 y.2)
  dof : V.cell? ⟨w.heap.size + 2, 0, none⟩ = some (.func (.func f) #[] #[])
  res : Slot2 V (w.heap.size + 3) (.int .i64 0) (.int .i64 0)
  ends : V.cell? ⟨w.heap.size + 5, 0, none⟩ = some (.slice (some ⟨w.heap.size + 4, 0, none⟩) l.length 4)
  free : V.frozen? ⟨w.heap.size + 5, 0, none⟩ = false
  room : ∀ i, i < 8 → (V.cell? ⟨w.heap.size + 4, i, none⟩).isSome = true ∧ V.frozen? ⟨w.heap.size + 4, i, none⟩ = false
  held : ∀ i (h : i < l.length), V.cell? ⟨w.heap.size + 4, i * 2, none⟩ = some (.int .i64 l[i].1) ∧ V.cell? ⟨w.heap.size + 4, i * 2 + 1, none⟩ = some (.int .i64 l[i].2)

theorem CS.size {w V : World} {x y : Int × Int} {f : Nat} {l : List (Int × Int)} (h : CS w V x y f l) : w.heap.size + 5 < V.heap.size := World.block_lt_of_cell? V _ h.ends
theorem CS.next {w V W : World} {x y : Int × Int} {f : Nat} {l : List (Int × Int)} (h : CS w V x y f l) (hB : Below V.heap.size V W) : CS w W x y f l := by
  have hz := h.size
  exact ⟨below_next h.below hB, h.sx.next hB, h.sy.next hB, keep_cell hB h.dof (by first | (simp; done) | (simp; omega)), h.res.next hB, keep_cell hB h.ends (by first | (simp; done) | (simp; omega)), keep_free hB h.free (by first | (simp; done) | (simp; omega)),
    fun i hi => ⟨by rw [hB.cell (by first | (simp; done) | (simp; omega))]; exact (h.room i hi).1, keep_free hB (h.room i hi).2 (by first | (simp; done) | (simp; omega))⟩,
    fun i hi => ⟨keep_cell hB (h.held i hi).1 (by first | (simp; done) | (simp; omega)), keep_cell hB (h.held i hi).2 (by first | (simp; done) | (simp; omega))⟩⟩
theorem cell_other {V : World} {p a : Addr} (v : Value) (h : p ≠ a) : (V.setCell p v).cell? a = V.cell? a := World.cell?_setCell_other (h := h) ..
theorem CS.push {w V : World} {x y : Int × Int} {f : Nat} {l : List (Int × Int)} (h : CS w V x y f l) (hl : l.length ≤ 3) (q : Int × Int) :
    CS w (((V.setCell ⟨w.heap.size + 4, l.length * 2, none⟩ (.int .i64 q.1)).setCell ⟨w.heap.size + 4, l.length * 2 + 1, none⟩ (.int .i64 q.2)).setCell ⟨w.heap.size + 5, 0, none⟩ (.slice (some ⟨w.heap.size + 4, 0, none⟩) (l.length + 1) 4)) x y f (l ++ [q]) := by
  have hz := h.size
  have far : ∀ b o (hb : b ≠ w.heap.size + 4) (hb' : b ≠ w.heap.size + 5), (((V.setCell ⟨w.heap.size + 4, l.length * 2, none⟩ (.int .i64 q.1)).setCell ⟨w.heap.size + 4, l.length * 2 + 1, none⟩ (.int .i64 q.2)).setCell ⟨w.heap.size + 5, 0, none⟩ (.slice (some ⟨w.heap.size + 4, 0, none⟩) (l.length + 1) 4)).cell? ⟨b, o, none⟩ = V.cell? ⟨b, o, none⟩ := by
    intro b o hb hb'
    rw [cell_other _ (by first | (simp; done) | (simp; omega)), cell_other _ (by first | (simp; done) | (simp; omega)), cell_other _ (by first | (simp; done) | (simp; omega))]
  have slot : ∀ b u v, b ≠ w.heap.size + 4 → b ≠ w.heap.size + 5 → Slot2 V b u v → Slot2 (((V.setCell ⟨w.heap.size + 4, l.length * 2, none⟩ (.int .i64 q.1)).setCell ⟨w.heap.size + 4, l.length * 2 + 1, none⟩ (.int .i64 q.2)).setCell ⟨w.heap.size + 5, 0, none⟩ (.slice (some ⟨w.heap.size + 4, 0, none⟩) (l.length + 1) 4)) b u v :=
    fun b u v hb hb' S => ((S.far _ (by first | (simp; done) | (simp; omega)) _).far _ (by first | (simp; done) | (simp; omega)) _).far _ (by first | (simp; done) | (simp; omega)) _
  obtain ⟨u0, hu0⟩ := Option.isSome_iff_exists.1 (h.room (l.length * 2) (by omega)).1
  obtain ⟨u1, hu1⟩ := Option.isSome_iff_exists.1 (h.room (l.length * 2 + 1) (by omega)).1
  refine ⟨((h.below.setCell (by simp) _).setCell (by simp) _).setCell (by simp) _, slot _ _ _ (by omega) (by omega) h.sx, slot _ _ _ (by omega) (by omega) h.sy, by rw [far _ _ (by omega) (by omega)]; exact h.dof, slot _ _ _ (by omega) (by omega) h.res, ?_, by simp only [World.frozen?_setCell]; exact h.free, ?_, ?_⟩
  · rw [List.length_append]
    refine World.cell?_setCell_same _ _ _ (u := .slice (some ⟨w.heap.size + 4, 0, none⟩) l.length 4) ?_
    rw [cell_other _ (by simp), cell_other _ (by simp)]; exact h.ends
  · intro i hi
    refine ⟨?_, by simp only [World.frozen?_setCell]; exact (h.room i hi).2⟩
    rw [cell_other _ (by simp)]
    by_cases e1 : i = l.length * 2 + 1
    · subst e1
      rw [World.cell?_setCell_same _ _ _ (u := u1) (by rw [cell_other _ (by simp)]; exact hu1)]; rfl
    · rw [cell_other _ (by first | (simp; done) | (simp; omega))]
      by_cases e0 : i = l.length * 2
      · subst e0
        rw [World.cell?_setCell_same _ _ _ (u := u0) hu0]; rfl
      · rw [cell_other _ (by first | (simp; done) | (simp; omega))]; exact (h.room i hi).1
  · intro i hi
    rw [List.length_append] at hi
    simp only [List.length_cons, List.length_nil] at hi
    rcases Nat.lt_or_ge i l.length with hlt | hge
    · rw [List.getElem_append_left hlt]
      refine ⟨?_, ?_⟩
      · rw [cell_other _ (by simp), cell_other _ (by first | (simp; done) | (simp; omega)), cell_other _ (by first | (simp; done) | (simp; omega))]; exact (h.held i hlt).1
      · rw [cell_other _ (by simp), cell_other _ (by first | (simp; done) | (simp; omega)), cell_other _ (by first | (simp; done) | (simp; omega))]; exact (h.held i hlt).2
    · obtain rfl : i = l.length := by omega
      rw [List.getElem_append_right (Nat.le_refl _)]
      simp only [Nat.sub_self, List.getElem_cons_zero]
      refine ⟨?_, ?_⟩
      · rw [cell_other _ (by simp), cell_other _ (by simp), World.cell?_setCell_same _ _ _ (u := u0) hu0]
      · rw [cell_other _ (by simp), World.cell?_setCell_same _ _ _ (u := u1) (by rw [cell_other _ (by simp)]; exact hu1)]

/-- One more corner, by what stands in memory. -/
theorem collect_cs (f : Nat) (a b : Int) (q x y : Int × Int) (l : List (Int × Int)) (hl : l.length ≤ 3) (w V : World) (eg : ∀ args w, (callFunc f args).run Tryz.prog w = .ok (.enter f args) w)
    (hC : ∀ V, Calls Tryz.prog f #[.int .i64 a, .int .i64 b] V fun e w' => e = .returned (.agg #[.int .i64 q.1, .int .i64 q.2]) ∧ Below V.heap.size V w') (h : CS w V x y f l) :
    Calls Tryz.prog 37 #[.int .i64 a, .int .i64 b, .pointer (some ⟨w.heap.size + 5, 0, none⟩), .pointer (some ⟨w.heap.size + 2, 0, none⟩)] V
      fun e w' => e = .returned (.tuple #[]) ∧ CS w w' x y f (l ++ [q]) := by
  refine (collect_any f (w.heap.size + 4) (w.heap.size + 5) (w.heap.size + 2) l.length a b q V eg hC h.ends h.dof h.free hl (h.room _ (by omega)).1 (h.room _ (by omega)).1 (h.room _ (by omega)).2 (h.room _ (by omega)).2 (by omega)).mono ?_
  rintro e w' ⟨W, hB, rfl, rfl⟩
  exact ⟨rfl, (h.next hB).push hl q⟩
end Go.Proofs.YtnjedigjabijcaaGreatDoor
