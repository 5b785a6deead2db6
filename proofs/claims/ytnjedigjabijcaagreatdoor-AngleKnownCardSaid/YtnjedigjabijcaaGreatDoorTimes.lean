import Derived.Test.YtnjedigjabijcaaGreatDoorCorn3
namespace Go.Proofs.YtnjedigjabijcaaGreatDoor
open Go Go.RowKit

def checkedE (p : Int × Int) : (Int × Int) × Int := if inB p.1 p.2 (-3000000000) 3000000000 then (p, 0) else ((0, 0), 7)
theorem checked_yes {p : Int × Int} (h : inB p.1 p.2 (-3000000000) 3000000000 = true) : checkedE p = (p, 0) := by unfold checkedE; rw [h]; rfl
theorem checked_no {p : Int × Int} (h : inB p.1 p.2 (-3000000000) 3000000000 = false) : checkedE p = ((0, 0), 7) := by unfold checkedE; rw [h]; rfl

set_option maxHeartbeats 1000000 in
theorem checked_any (p : Int × Int) (w : World) :
    Calls Tryz.prog 22 #[.agg #[.int .i64 p.1, .int .i64 p.2]] w fun e w' => e = .returned (pairV (checkedE p).1 (checkedE p).2) ∧ Below w.heap.size w w' := by
  have SA0 := (Slot2.new w (.int .i64 p.1) (.int .i64 p.2) 23).alloc (.cells #[.int .i64 0, .int .i64 0] 23)
  have SR0 := Slot2.new (w.alloc (.cells #[.int .i64 p.1, .int .i64 p.2] 23)) (.int .i64 0) (.int .i64 0) 23
  simp only [World.size_alloc] at SR0
  have hW : Below w.heap.size w ((w.alloc (.cells #[.int .i64 p.1, .int .i64 p.2] 23)).alloc (.cells #[.int .i64 0, .int .i64 0] 23)) := by go_grown
  go_enter Tryz.func22, Tryz.ntmps22
  have SA1 := SA0
  obtain ⟨_, a0, a1, _, _⟩ := SA1
  go_wp2_with fail
  refine (values_any p.1 p.2 _).mono ?_
  rintro e w1 ⟨rfl, hB1⟩
  clear a0 a1
  have SA := SA0.next hB1
  have SR := SR0.next hB1
  have hB := below_next hW hB1
  clear SA0 SR0 hW hB1
  cases hc : inB p.1 p.2 (-3000000000) 3000000000
  · have E := Lib.hid (checked_no hc)
    clear hc SA
    have SF := SR.both (.int .i64 0) (.int .i64 0)
    have HB := Lib.hid (below_both hB (by omega : w.heap.size ≤ w.heap.size + 1) (.int .i64 0) (.int .i64 0))
    obtain ⟨liesR, r0, r1, rf0, rf1⟩ := SR
    clear hB
    go_wp2_with fail
    refine bodyPost_ret (v := pairV (0, 0) 7) (by simp [results, Tryz.results22, go_sem, SF.cell0, SF.cell1]; exact rfl) rfl ⟨by rw [E.out], HB.out⟩
  · have E := Lib.hid (checked_yes hc)
    clear hc
    have SF := SR.both (.int .i64 p.1) (.int .i64 p.2)
    have HB := Lib.hid (below_both hB (by omega : w.heap.size ≤ w.heap.size + 1) (.int .i64 p.1) (.int .i64 p.2))
    obtain ⟨liesR, r0, r1, rf0, rf1⟩ := SR
    obtain ⟨_, a0, a1, _, _⟩ := SA
    clear hB
    go_wp2_with fail
    refine bodyPost_ret (v := pairV p 0) (by simp [results, Tryz.results22, go_sem, SF.cell0, SF.cell1]; exact rfl) rfl ⟨by rw [E.out], HB.out⟩

theorem prod_bound {a b : Int} (a0 : -3000000000 ≤ a) (a1 : a ≤ 3000000000) (b0 : -3000000000 ≤ b) (b1 : b ≤ 3000000000) : -9223372036854775807 ≤ a * b ∧ a * b ≤ 9223372036854775807 := by
  have h1 := Int.mul_nonneg (Int.sub_nonneg.2 a1) (Int.sub_nonneg.2 b1)
  have h2 := Int.mul_nonneg (show (0 : Int) ≤ 3000000000 + a by omega) (show (0 : Int) ≤ 3000000000 + b by omega)
  have h3 := Int.mul_nonneg (Int.sub_nonneg.2 a1) (show (0 : Int) ≤ 3000000000 + b by omega)
  have h4 := Int.mul_nonneg (show (0 : Int) ≤ 3000000000 + a by omega) (Int.sub_nonneg.2 b1)
  simp only [Int.sub_mul, Int.mul_sub, Int.add_mul, Int.mul_add] at h1 h2 h3 h4
  omega

def cornE (g : Int → Int → Int × Int) (x y : Int × Int) : Int × Int := hullL (g x.1 y.1) [g x.1 y.2, g x.2 y.1, g x.2 y.2]
def timesQ (a b : Int) : Int × Int := quoE (a * b) 100000000
def overQ (a b : Int) : Int × Int := quoE (a * 100000000) b

theorem corners_times (x y : Int × Int) (hx : inB x.1 x.2 (-3000000000) 3000000000 = true) (hy : inB y.1 y.2 (-3000000000) 3000000000 = true) (w : World) :
    Calls Tryz.prog 23 #[.agg #[.int .i64 x.1, .int .i64 x.2], .agg #[.int .i64 y.1, .int .i64 y.2], .func (.func 24) #[] #[]] w
      fun e w' => e = .returned (.agg #[.int .i64 (cornE timesQ x y).1, .int .i64 (cornE timesQ x y).2]) ∧ Below w.heap.size w w' := by
  obtain ⟨i1, i2, i3⟩ := inB_yes hx
  obtain ⟨j1, j2, j3⟩ := inB_yes hy
  refine corners_any 24 x y timesQ w (fun args w => by kernel_rfl) ?_
  intro a b ha hb V
  have h := prod_bound (a := a) (b := b) (by omega) (by omega) (by omega) (by omega)
  exact times1_any a b h.1 h.2 V
theorem corners_over (x y : Int × Int) (hx : inB x.1 x.2 (-3000000000) 3000000000 = true) (hy : inB y.1 y.2 (-3000000000) 3000000000 = true) (hz : ¬ (y.1 ≤ 0 ∧ 0 ≤ y.2)) (w : World) :
    Calls Tryz.prog 23 #[.agg #[.int .i64 x.1, .int .i64 x.2], .agg #[.int .i64 y.1, .int .i64 y.2], .func (.func 26) #[] #[]] w
      fun e w' => e = .returned (.agg #[.int .i64 (cornE overQ x y).1, .int .i64 (cornE overQ x y).2]) ∧ Below w.heap.size w w' := by
  obtain ⟨i1, i2, i3⟩ := inB_yes hx
  obtain ⟨j1, j2, j3⟩ := inB_yes hy
  refine corners_any 26 x y overQ w (fun args w => by kernel_rfl) ?_
  intro a b ha hb V
  exact over1_any a b (by omega) (by omega) (by omega) (by omega) (by omega) V
end Go.Proofs.YtnjedigjabijcaaGreatDoor
