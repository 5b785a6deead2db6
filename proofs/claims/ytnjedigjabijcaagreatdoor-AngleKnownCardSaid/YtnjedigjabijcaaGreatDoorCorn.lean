import Derived.Test.YtnjedigjabijcaaGreatDoorEncl
import Derived.Deep.RegionLaw
namespace Go.Proofs.YtnjedigjabijcaaGreatDoor
open Go Go.RowKit

def valuesB (p : Int × Int) : Bool := inB p.1 p.2 (-3000000000) 3000000000
set_option maxHeartbeats 1000000 in
theorem values_any (lo hi : Int) (w : World) :
    Calls Tryz.prog 21 #[.agg #[.int .i64 lo, .int .i64 hi]] w fun e w' => e = .returned (.bool (inB lo hi (-3000000000) 3000000000)) ∧ Below w.heap.size w w' := by
  have SA := Slot2.new w (.int .i64 lo) (.int .i64 hi) 23
  have k0 := alloc_below w (.cells #[.int .i64 lo, .int .i64 hi] 23)
  obtain ⟨_, a0, a1, _, _⟩ := SA
  go_enter Tryz.func21, Tryz.ntmps21
  go_wp2_with fail
  refine (within_any lo hi (-3000000000) 3000000000 _).mono ?_
  rintro e w1 ⟨rfl, hB1⟩
  have HB := Lib.hid (below_next k0 hB1)
  clear k0 hB1 a0 a1
  go_wp2
  go_ret
  exact ⟨rfl, HB.out⟩

/-- The least enclosure of n / d. -/
def quoE (n d : Int) : Int × Int := if d < 0 then ((-n) / (-d), -((-(-n)) / (-d))) else (n / d, -((-n) / d))
theorem quo_neg (n d : Int) (h : d < 0) : quoE n d = ((-n) / (-d), -((-(-n)) / (-d))) := if_pos h
theorem quo_pos (n d : Int) (h : ¬ d < 0) : quoE n d = (n / d, -((-n) / d)) := if_neg h

set_option maxHeartbeats 1000000 in
theorem quotient_any (n d : Int) (hd : d ≠ 0) (h0 : -9223372036854775807 ≤ n) (h1 : n ≤ 9223372036854775807) (h2 : -9223372036854775807 ≤ d) (h3 : d ≤ 9223372036854775807) (w : World) :
    Calls Tryz.prog 25 #[.int .i64 n, .int .i64 d] w fun e w' => e = .returned (.agg #[.int .i64 (quoE n d).1, .int .i64 (quoE n d).2]) ∧ Below w.heap.size w w' := by
  have SR := Slot2.new w (.int .i64 0) (.int .i64 0) 23
  have k0 := alloc_below w (.cells #[.int .i64 0, .int .i64 0] 23)
  obtain ⟨_, r0, r1, rf0, rf1⟩ := SR
  by_cases hs : d < 0
  · have E := Lib.hid (quo_neg n d hs)
    go_enter Tryz.func25, Tryz.ntmps25
    go_wp2_with (first | (go_at_call 38; refine (down_any _ _ (by omega) (by omega) (by omega) _).mono ?_; rintro e w' ⟨rfl, rfl⟩) | (go_at_call 39; refine (up_any _ _ (by omega) (by omega) (by omega) _).mono ?_; rintro e w' ⟨rfl, rfl⟩))
    go_returns
    exact ⟨by rw [E.out]; simp, by go_grown⟩
  · have E := Lib.hid (quo_pos n d hs)
    go_enter Tryz.func25, Tryz.ntmps25
    go_wp2_with (first | (go_at_call 38; refine (down_any _ _ (by omega) (by omega) (by omega) _).mono ?_; rintro e w' ⟨rfl, rfl⟩) | (go_at_call 39; refine (up_any _ _ (by omega) (by omega) (by omega) _).mono ?_; rintro e w' ⟨rfl, rfl⟩))
    go_returns
    exact ⟨by rw [E.out], by go_grown⟩

set_option maxHeartbeats 1000000 in
theorem times1_any (a b : Int) (ha : -9223372036854775807 ≤ a * b) (hb : a * b ≤ 9223372036854775807) (w : World) :
    Calls Tryz.prog 24 #[.int .i64 a, .int .i64 b] w fun e w' => e = .returned (.agg #[.int .i64 (quoE (a * b) 100000000).1, .int .i64 (quoE (a * b) 100000000).2]) ∧ Below w.heap.size w w' := by
  have C := fun w => quotient_any (a * b) 100000000 (by omega) (by omega) (by omega) (by omega) (by omega) w
  generalize quoE (a * b) 100000000 = p at *
  have HC := Lib.hid C
  clear C
  have SR0 := Slot2.new w (.int .i64 0) (.int .i64 0) 23
  have k0 := alloc_below w (.cells #[.int .i64 0, .int .i64 0] 23)
  go_enter Tryz.func24, Tryz.ntmps24
  go_wp2_with fail
  refine (HC.out _).mono ?_
  rintro e w1 ⟨rfl, hB1⟩
  have SR := SR0.next hB1
  have SF := SR.set0 (.int .i64 p.1) |>.set1 (.int .i64 p.2)
  have HB := Lib.hid (((below_next k0 hB1).setCell (p := ⟨w.heap.size, 0, none⟩) (by simp) (.int .i64 p.1)).setCell (p := ⟨w.heap.size, 1, none⟩) (by simp) (.int .i64 p.2))
  obtain ⟨_, r0, r1, rf0, rf1⟩ := SR
  clear SR0 k0 hB1
  go_wp2
  refine bodyPost_ret (v := .agg #[.int .i64 p.1, .int .i64 p.2]) (by simp [results, Tryz.results24, go_sem, SF.cell0, SF.cell1]) rfl ⟨rfl, HB.out⟩

set_option maxHeartbeats 1000000 in
theorem over1_any (a b : Int) (ha : -9223372036854775807 ≤ a * 100000000) (hb : a * 100000000 ≤ 9223372036854775807) (hb0 : b ≠ 0) (h2 : -9223372036854775807 ≤ b) (h3 : b ≤ 9223372036854775807) (w : World) :
    Calls Tryz.prog 26 #[.int .i64 a, .int .i64 b] w fun e w' => e = .returned (.agg #[.int .i64 (quoE (a * 100000000) b).1, .int .i64 (quoE (a * 100000000) b).2]) ∧ Below w.heap.size w w' := by
  have C := fun w => quotient_any (a * 100000000) b hb0 (by omega) (by omega) h2 h3 w
  generalize quoE (a * 100000000) b = p at *
  have HC := Lib.hid C
  clear C
  have SR0 := Slot2.new w (.int .i64 0) (.int .i64 0) 23
  have k0 := alloc_below w (.cells #[.int .i64 0, .int .i64 0] 23)
  go_enter Tryz.func26, Tryz.ntmps26
  go_wp2_with fail
  refine (HC.out _).mono ?_
  rintro e w1 ⟨rfl, hB1⟩
  have SR := SR0.next hB1
  have SF := SR.set0 (.int .i64 p.1) |>.set1 (.int .i64 p.2)
  have HB := Lib.hid (((below_next k0 hB1).setCell (p := ⟨w.heap.size, 0, none⟩) (by simp) (.int .i64 p.1)).setCell (p := ⟨w.heap.size, 1, none⟩) (by simp) (.int .i64 p.2))
  obtain ⟨_, r0, r1, rf0, rf1⟩ := SR
  clear SR0 k0 hB1
  go_wp2
  refine bodyPost_ret (v := .agg #[.int .i64 p.1, .int .i64 p.2]) (by simp [results, Tryz.results26, go_sem, SF.cell0, SF.cell1]) rfl ⟨rfl, HB.out⟩

theorem info23 : (Tryz.prog.info? 23).map (fun i => (i.zero, i.size, i.bytes)) = some (some (.agg #[.int .i64 0, .int .i64 0]), 2, 16) := by kernel_rfl

theorem room_facts {w : World} {eb pe n : Nat} {q : Int × Int} {u0 u1 x : Value} (b1 : pe < w.heap.size) (b2 : eb < w.heap.size) (he : w.cell? ⟨pe, 0, none⟩ = some x) (hf : w.frozen? ⟨pe, 0, none⟩ = false)
    (hu0 : w.cell? ⟨eb, n * 2, none⟩ = some u0) (hu1 : w.cell? ⟨eb, n * 2 + 1, none⟩ = some u1) (g0 : w.frozen? ⟨eb, n * 2, none⟩ = false) (g1 : w.frozen? ⟨eb, n * 2 + 1, none⟩ = false) (hne : pe ≠ eb) :
    ∀ w2, Below w.heap.size w w2 → w2.cell? ⟨pe, 0, none⟩ = some x ∧ (w2.alloc (.cells #[.int .i64 q.1, .int .i64 q.2] 23)).cell? ⟨eb, n * 2, none⟩ = some u0 ∧ ((w2.alloc (.cells #[.int .i64 q.1, .int .i64 q.2] 23)).setCell ⟨eb, n * 2, none⟩ (.int .i64 q.1)).cell? ⟨eb, n * 2 + 1, none⟩ = some u1 ∧
      (w2.alloc (.cells #[.int .i64 q.1, .int .i64 q.2] 23)).frozen? ⟨eb, n * 2, none⟩ = false ∧ (w2.alloc (.cells #[.int .i64 q.1, .int .i64 q.2] 23)).frozen? ⟨eb, n * 2 + 1, none⟩ = false ∧
      (((w2.alloc (.cells #[.int .i64 q.1, .int .i64 q.2] 23)).setCell ⟨eb, n * 2, none⟩ (.int .i64 q.1)).setCell ⟨eb, n * 2 + 1, none⟩ (.int .i64 q.2)).cell? ⟨pe, 0, none⟩ = some x ∧
      (w2.alloc (.cells #[.int .i64 q.1, .int .i64 q.2] 23)).frozen? ⟨pe, 0, none⟩ = false ∧ (w2.alloc (.cells #[.int .i64 q.1, .int .i64 q.2] 23)).cell? ⟨pe, 0, none⟩ = some x := by
  intro w2 hB
  have hz := hB.size
  have k := hB.trans ((alloc_below w2 (.cells #[.int .i64 q.1, .int .i64 q.2] 23)).mono hz)
  refine ⟨keep_cell hB he b1, keep_cell k hu0 b2, ?_, keep_free k g0 b2, keep_free k g1 b2, ?_, keep_free k hf b1, keep_cell k he b1⟩
  · rw [World.cell?_setCell_other (h := by simp)]; exact keep_cell k hu1 b2
  · rw [World.cell?_setCell_other (h := by first | (simp; done) | (simp; intro h; exact absurd h.symm hne)), World.cell?_setCell_other (h := by first | (simp; done) | (simp; intro h; exact absurd h.symm hne))]; exact keep_cell k he b1

set_option maxRecDepth 100000 in
set_option maxHeartbeats 4000000 in
/-- One more corner: what 'do' returns is put behind the others, where there is room. -/
theorem collect_any (f : Nat) (eb pe pd n : Nat) (a b : Int) (q : Int × Int) (w : World) (eg : ∀ args w, (callFunc f args).run Tryz.prog w = .ok (.enter f args) w)
    (hC : ∀ V, Calls Tryz.prog f #[.int .i64 a, .int .i64 b] V fun e w' => e = .returned (.agg #[.int .i64 q.1, .int .i64 q.2]) ∧ Below V.heap.size V w')
    (he : w.cell? ⟨pe, 0, none⟩ = some (.slice (some ⟨eb, 0, none⟩) n 4)) (hd : w.cell? ⟨pd, 0, none⟩ = some (.func (.func f) #[] #[])) (hf : w.frozen? ⟨pe, 0, none⟩ = false) (hn : n ≤ 3)
    (h0 : (w.cell? ⟨eb, n * 2, none⟩).isSome = true) (h1 : (w.cell? ⟨eb, n * 2 + 1, none⟩).isSome = true) (g0 : w.frozen? ⟨eb, n * 2, none⟩ = false) (g1 : w.frozen? ⟨eb, n * 2 + 1, none⟩ = false) (hne : pe ≠ eb) :
    Calls Tryz.prog 37 #[.int .i64 a, .int .i64 b, .pointer (some ⟨pe, 0, none⟩), .pointer (some ⟨pd, 0, none⟩)] w
      fun e w' => ∃ W, Below w.heap.size w W ∧ e = .returned (.tuple #[]) ∧ w' = ((W.setCell ⟨eb, n * 2, none⟩ (.int .i64 q.1)).setCell ⟨eb, n * 2 + 1, none⟩ (.int .i64 q.2)).setCell ⟨pe, 0, none⟩ (.slice (some ⟨eb, 0, none⟩) (n + 1) 4) := by
  have HC := Lib.hid hC
  clear hC
  obtain ⟨i0, hi, hz0, hz1, hz2⟩ := info_parts info23
  have le := World.block_lt_of_cell? w _ he
  have ld := World.block_lt_of_cell? w _ hd
  have lb : eb < w.heap.size := by
    obtain ⟨u, hu⟩ := Option.isSome_iff_exists.1 h0
    exact World.block_lt_of_cell? w _ hu
  obtain ⟨u0, hu0⟩ := Option.isSome_iff_exists.1 h0
  obtain ⟨u1, hu1⟩ := Option.isSome_iff_exists.1 h1
  have hn' : n + 1 ≤ 4 := by omega
  clear h0 h1 hi hz0 hz1 hz2
  have HF := Lib.hid (room_facts (q := q) (b1 := le) (b2 := lb) he hf hu0 hu1 g0 g1 hne)
  go_enter Tryz.func37, Tryz.ntmps37
  go_region_with (first
    | (go_at_fn f; refine (HC.out _).mono ?_; rintro e w2 ⟨rfl, hB2⟩; have hB2' := undrew hB2; obtain ⟨e2, c0, c1, d0, d1, e3, e4, e5⟩ := HF.out w2 hB2'))
  all_goals (go_wp2_with fail)
  all_goals go_returns
  all_goals exact ⟨_, hB2'.trans ((alloc_below w2 _).mono hB2'.size), rfl, rfl⟩
end Go.Proofs.YtnjedigjabijcaaGreatDoor
