import Derived.Test.YtnjedigjabijcaaDoorCircDef
import Derived.Test.YtnjedigjabijcaaDoorSine8
namespace Go.Proofs.YtnjedigjabijcaaDoor
open Go Go.RowKit

def meetB (a b : Int × Int) : Bool := decide (a.1 ≤ b.2) && decide (b.1 ≤ a.2)
def arr2 (p : Int × Int) : Value := .agg #[.int .i64 p.1, .int .i64 p.2]

set_option maxHeartbeats 400000 in
theorem meet_any (a b : Int × Int) (w : World) :
    Calls Tryd.prog 41 #[arr2 a, arr2 b] w fun e w' => e = .returned (.bool (meetB a b)) ∧ Below w.heap.size w w' := by
  obtain ⟨a1, a2⟩ := a
  obtain ⟨b1, b2⟩ := b
  unfold meetB arr2
  simp only
  by_cases h1 : a1 ≤ b2
  · by_cases h2 : b1 ≤ a2
    · go_enter Tryd.func41, Tryd.ntmps41
      go_wp2
      go_ret
      exact ⟨by simp [h1, h2], by go_grown⟩
    · go_enter Tryd.func41, Tryd.ntmps41
      go_wp2
      go_ret
      exact ⟨by simp [h2], by go_grown⟩
  · have h1' : decide (a1 ≤ b2) = false := decide_eq_false h1
    go_enter Tryd.func41, Tryd.ntmps41
    go_wp2
    go_ret
    exact ⟨rfl, by go_grown⟩

def sumE (a b : Int × Int) : Int × Int := (a.1 + b.1, a.2 + b.2)
set_option maxHeartbeats 400000 in
theorem sum_any (a b : Int × Int) (h1 : -9000000000000000000 ≤ a.1 + b.1) (h2 : a.1 + b.1 ≤ 9000000000000000000) (h3 : -9000000000000000000 ≤ a.2 + b.2) (h4 : a.2 + b.2 ≤ 9000000000000000000) (w : World) :
    Calls Tryd.prog 42 #[arr2 a, arr2 b] w fun e w' => e = .returned (arr2 (sumE a b)) ∧ Below w.heap.size w w' := by
  obtain ⟨a1, a2⟩ := a
  obtain ⟨b1, b2⟩ := b
  unfold sumE arr2
  simp only at *
  have e1 : IntKind.i64.wrap (a1 + b1) = a1 + b1 := IntWalk.i64_in _ (by omega)
  have e2 : IntKind.i64.wrap (a2 + b2) = a2 + b2 := IntWalk.i64_in _ (by omega)
  have SF := Slot2.new ((w.alloc (.cells #[.int .i64 a1, .int .i64 a2] 39)).alloc (.cells #[.int .i64 b1, .int .i64 b2] 39)) (.int .i64 (a1 + b1)) (.int .i64 (a2 + b2)) 39
  simp only [World.size_alloc] at SF
  go_enter Tryd.func42, Tryd.ntmps42
  go_wp2
  exact bodyPost_ret (v := .agg #[.int .i64 (a1 + b1), .int .i64 (a2 + b2)]) (by simp [results, Tryd.results42, go_sem, SF.cell0, SF.cell1]) rfl ⟨rfl, by go_grown⟩

theorem fit_prod {p q : Int × Int} (hp : Fit p) (hq : Fit q) :
    (-10000000200000001 ≤ p.1 * q.1 ∧ p.1 * q.1 ≤ 10000000200000001) ∧ (-10000000200000001 ≤ p.1 * q.2 ∧ p.1 * q.2 ≤ 10000000200000001) ∧ (-10000000200000001 ≤ p.2 * q.1 ∧ p.2 * q.1 ≤ 10000000200000001) ∧ (-10000000200000001 ≤ p.2 * q.2 ∧ p.2 * q.2 ≤ 10000000200000001) := by
  have k : ∀ x y : Int, -100000001 ≤ x → x ≤ 100000001 → -100000001 ≤ y → y ≤ 100000001 → -10000000200000001 ≤ x * y ∧ x * y ≤ 10000000200000001 := by
    intro x y h1 h2 h3 h4
    have a := Int.mul_nonneg (show 0 ≤ 100000001 - x by omega) (show 0 ≤ 100000001 + y by omega)
    have b := Int.mul_nonneg (show 0 ≤ 100000001 + x by omega) (show 0 ≤ 100000001 - y by omega)
    have c := Int.mul_nonneg (show 0 ≤ 100000001 - x by omega) (show 0 ≤ 100000001 - y by omega)
    have d := Int.mul_nonneg (show 0 ≤ 100000001 + x by omega) (show 0 ≤ 100000001 + y by omega)
    rw [Int.sub_mul, Int.mul_add] at a
    rw [Int.add_mul, Int.mul_sub] at b
    rw [Int.sub_mul, Int.mul_sub] at c
    rw [Int.add_mul, Int.mul_add] at d
    rw [Int.mul_add] at a
    rw [Int.mul_sub] at b c
    rw [Int.mul_add] at d
    generalize x * y = z at *
    omega
  obtain ⟨p1, p2, p3⟩ := hp
  obtain ⟨q1, q2, q3⟩ := hq
  exact ⟨k _ _ (by omega) (by omega) (by omega) (by omega), k _ _ (by omega) (by omega) (by omega) (by omega), k _ _ (by omega) (by omega) (by omega) (by omega), k _ _ (by omega) (by omega) (by omega) (by omega)⟩
def enclV (p : Int × Int) : Value := .agg #[.int .i64 p.1, .int .i64 p.2]
theorem run_min4 (ts : Array TypeId) (t : TypeId) (a b c d : Int) (w : World) :
    (Builtin.min_ ts t #[.int .i64 a, .int .i64 b, .int .i64 c, .int .i64 d]).run Tryd.prog w = .ok (.int .i64 (min (min (min a b) c) d)) w := by
  have e : ∀ x y : Int, (if y < x then y else x) = min x y := by intro x y; split <;> omega
  simp [Builtin.min_, Builtin.min2, e]
theorem run_max4 (ts : Array TypeId) (t : TypeId) (a b c d : Int) (w : World) :
    (Builtin.max_ ts t #[.int .i64 a, .int .i64 b, .int .i64 c, .int .i64 d]).run Tryd.prog w = .ok (.int .i64 (max (max (max a b) c) d)) w := by
  have e : ∀ x y : Int, (if x < y then y else x) = max x y := by intro x y; split <;> omega
  simp [Builtin.max_, Builtin.max2, e]
set_option maxHeartbeats 1000000 in
theorem lprod_any (p q : Int × Int) (hp : Fit p) (hq : Fit q) (w : World) :
    Calls Tryd.prog 44 #[enclV p, enclV q] w fun e w' => e = .returned (arr2 (prodE p q)) ∧ Below w.heap.size w w' := by
  obtain ⟨⟨a1, a2⟩, ⟨b1, b2⟩, ⟨c1, c2⟩, d1, d2⟩ := fit_prod hp hq
  clear hp hq
  obtain ⟨p1, p2⟩ := p
  obtain ⟨q1, q2⟩ := q
  unfold prodE arr2 enclV
  simp only at *
  have e1 : IntKind.i64.wrap (p1 * q1) = p1 * q1 := IntWalk.i64_in _ (by omega)
  have e2 : IntKind.i64.wrap (p1 * q2) = p1 * q2 := IntWalk.i64_in _ (by omega)
  have e3 : IntKind.i64.wrap (p2 * q1) = p2 * q1 := IntWalk.i64_in _ (by omega)
  have e4 : IntKind.i64.wrap (p2 * q2) = p2 * q2 := IntWalk.i64_in _ (by omega)
  have SA := ((Slot2.new w (.int .i64 p1) (.int .i64 p2) 23).alloc (.cells #[.int .i64 q1, .int .i64 q2] 23)).alloc (.cells #[.int .i64 0, .int .i64 0] 39)
  have SB := (Slot2.new (w.alloc (.cells #[.int .i64 p1, .int .i64 p2] 23)) (.int .i64 q1) (.int .i64 q2) 23).alloc (.cells #[.int .i64 0, .int .i64 0] 39)
  have SR := Slot2.new ((w.alloc (.cells #[.int .i64 p1, .int .i64 p2] 23)).alloc (.cells #[.int .i64 q1, .int .i64 q2] 23)) (.int .i64 0) (.int .i64 0) 39
  simp only [World.size_alloc] at SB SR
  have hW : Below w.heap.size w (((w.alloc (.cells #[.int .i64 p1, .int .i64 p2] 23)).alloc (.cells #[.int .i64 q1, .int .i64 q2] 23)).alloc (.cells #[.int .i64 0, .int .i64 0] 39)) := by go_grown
  have HB := Lib.hid hW
  clear hW
  have m4 := fun ts t w => run_min4 ts t (p1 * q1) (p1 * q2) (p2 * q1) (p2 * q2) w
  have M4 := fun ts t w => run_max4 ts t (p1 * q1) (p1 * q2) (p2 * q1) (p2 * q2) w
  clear a1 a2 b1 b2 c1 c2 d1 d2
  generalize min (min (min (p1 * q1) (p1 * q2)) (p2 * q1)) (p2 * q2) = mn at *
  generalize max (max (max (p1 * q1) (p1 * q2)) (p2 * q1)) (p2 * q2) = mx at *
  go_enter Tryd.func44, Tryd.ntmps44
  go_upto_region 1 with (fail)
  generalize ((w.alloc (.cells #[.int .i64 p1, .int .i64 p2] 23)).alloc (.cells #[.int .i64 q1, .int .i64 q2] 23)).alloc (.cells #[.int .i64 0, .int .i64 0] 39) = W at *
  obtain ⟨x0, x1, x2, _, _⟩ := SA
  obtain ⟨y0, y1, y2, _, _⟩ := SB
  have HR := Lib.hid SR
  clear SR
  go_region_held3 (fun w' => w'.cell? ⟨w.heap.size, 0, none⟩ = some (.int .i64 p1) ∧ w'.cell? ⟨w.heap.size, 1, none⟩ = some (.int .i64 p2) ∧ w'.cell? ⟨w.heap.size + 1, 0, none⟩ = some (.int .i64 q1) ∧ w'.cell? ⟨w.heap.size + 1, 1, none⟩ = some (.int .i64 q2))
      ((go_split_ands; (repeat' apply And.intro) <;> (first | assumption | (go_keep; done)))) (fail)
  have SR := HR.out
  obtain ⟨z0, z1, z2, z3, z4⟩ := SR
  go_wp2_with fail
  have SF := (HR.out.set0 (.int .i64 mn)).set1 (.int .i64 mx)
  have hb := (HB.out.setCell (p := ⟨w.heap.size + 1 + 1, 0, none⟩) (by simp only; omega) (.int .i64 mn)).setCell (p := ⟨w.heap.size + 1 + 1, 1, none⟩) (by simp only; omega) (.int .i64 mx)
  exact bodyPost_ret (v := .agg #[.int .i64 mn, .int .i64 mx]) (by simp [results, Tryd.results44, go_sem, SF.cell0, SF.cell1]) rfl ⟨rfl, hb.os, hb.tape, hb.output, hb.size, hb.block⟩

set_option maxHeartbeats 1000000 in
theorem lsquare_any (p : Int × Int) (hp : Fit p) (w : World) :
    Calls Tryd.prog 43 #[enclV p] w fun e w' => e = .returned (arr2 (sqE p)) ∧ Below w.heap.size w w' := by
  obtain ⟨⟨a1, a2⟩, _, _, d1, d2⟩ := fit_prod hp hp
  have HC := Lib.hid (fun V => lprod_any p p hp hp V)
  have E := Lib.hid (show sqE p = if p.1 ≤ 0 ∧ 0 ≤ p.2 then (0, (prodE p p).2) else (min (p.1 * p.1) (p.2 * p.2), max (p.1 * p.1) (p.2 * p.2)) from rfl)
  clear hp
  obtain ⟨p1, p2⟩ := p
  unfold enclV at *
  simp only at *
  have e1 : IntKind.i64.wrap (p1 * p1) = p1 * p1 := IntWalk.i64_in _ (by omega)
  have e4 : IntKind.i64.wrap (p2 * p2) = p2 * p2 := IntWalk.i64_in _ (by omega)
  have SP0 := (Slot2.new w (.int .i64 p1) (.int .i64 p2) 23).alloc (.cells #[.int .i64 0, .int .i64 0] 39)
  have SR0 := Slot2.new (w.alloc (.cells #[.int .i64 p1, .int .i64 p2] 23)) (.int .i64 0) (.int .i64 0) 39
  simp only [World.size_alloc] at SR0
  have hW : Below w.heap.size w ((w.alloc (.cells #[.int .i64 p1, .int .i64 p2] 23)).alloc (.cells #[.int .i64 0, .int .i64 0] 39)) := by go_grown
  go_enter Tryd.func43, Tryd.ntmps43
  go_wp2_with fail
  generalize ((w.alloc (.cells #[.int .i64 p1, .int .i64 p2] 23)).alloc (.cells #[.int .i64 0, .int .i64 0] 39)) = W at *
  refine (HC.out _).mono ?_
  unfold arr2
  generalize prodE (p1, p2) (p1, p2) = q at *
  rintro e w1 ⟨rfl, hB1⟩
  have SP := (SP0.below hB1 SP0.lies).alloc (.cells #[.int .i64 q.1, .int .i64 q.2] 39)
  have SR := (SR0.below hB1 SR0.lies).alloc (.cells #[.int .i64 q.1, .int .i64 q.2] 39)
  have SQ := Slot2.new w1 (.int .i64 q.1) (.int .i64 q.2) 39
  have hB := (hW.trans (hB1.mono hW.size)).alloc (by have := (hW.trans (hB1.mono hW.size)).size; omega) (.cells #[.int .i64 q.1, .int .i64 q.2] 39)
  clear SP0 SR0 hW hB1 HC
  have HB := Lib.hid hB
  have HR := Lib.hid SR
  clear hB
  generalize hV : w1.alloc (.cells #[.int .i64 q.1, .int .i64 q.2] 39) = V at *
  obtain ⟨x0, x1, x2, _, _⟩ := SP
  obtain ⟨y0, y1, y2, _, _⟩ := SQ
  obtain ⟨z0, z1, z2, z3, z4⟩ := SR
  by_cases c1 : p1 ≤ 0
  · by_cases c2 : 0 ≤ p2
    · have E1 : Hid (sqE (p1, p2) = (0, q.2)) := by rw [E.out, if_pos ⟨c1, c2⟩]; exact rfl
      clear E
      have SF := (HR.out.set0 (.int .i64 0)).set1 (.int .i64 q.2)
      have hb := (HB.out.setCell (p := ⟨w.heap.size + 1, 0, none⟩) (by simp only; omega) (.int .i64 0)).setCell (p := ⟨w.heap.size + 1, 1, none⟩) (by simp only; omega) (.int .i64 q.2)
      go_wp2_with fail
      exact bodyPost_ret (v := .agg #[.int .i64 0, .int .i64 q.2]) (by simp [results, Tryd.results43, go_sem, SF.cell0, SF.cell1]) rfl ⟨by rw [E1.out]; rfl, hb.os, hb.tape, hb.output, hb.size, hb.block⟩
    · have E1 : Hid (sqE (p1, p2) = (min (p1 * p1) (p2 * p2), max (p1 * p1) (p2 * p2))) := by rw [E.out, if_neg (fun h => c2 h.2)]; exact rfl
      clear E
      rcases Int.lt_trichotomy (p1 * p1) (p2 * p2) with c3 | c3 | c3
      · have E2 : Hid (sqE (p1, p2) = (p1 * p1, p2 * p2)) := by rw [E1.out, show min (p1 * p1) (p2 * p2) = p1 * p1 by omega, show max (p1 * p1) (p2 * p2) = p2 * p2 by omega]; exact rfl
        clear E1
        have SF := (HR.out.set0 (.int .i64 (p1 * p1))).set1 (.int .i64 (p2 * p2))
        have hb := (HB.out.setCell (p := ⟨w.heap.size + 1, 0, none⟩) (by simp only; omega) (.int .i64 (p1 * p1))).setCell (p := ⟨w.heap.size + 1, 1, none⟩) (by simp only; omega) (.int .i64 (p2 * p2))
        go_wp2_with fail
        exact bodyPost_ret (v := .agg #[.int .i64 (p1 * p1), .int .i64 (p2 * p2)]) (by simp [results, Tryd.results43, go_sem, SF.cell0, SF.cell1]) rfl ⟨by rw [E2.out]; rfl, hb.os, hb.tape, hb.output, hb.size, hb.block⟩
      · have E2 : Hid (sqE (p1, p2) = (p2 * p2, p2 * p2)) := by rw [E1.out, show min (p1 * p1) (p2 * p2) = p2 * p2 by omega, show max (p1 * p1) (p2 * p2) = p2 * p2 by omega]; exact rfl
        clear E1
        have SF := (HR.out.set0 (.int .i64 (p2 * p2))).set1 (.int .i64 (p2 * p2))
        have hb := (HB.out.setCell (p := ⟨w.heap.size + 1, 0, none⟩) (by simp only; omega) (.int .i64 (p2 * p2))).setCell (p := ⟨w.heap.size + 1, 1, none⟩) (by simp only; omega) (.int .i64 (p2 * p2))
        go_wp2_with fail
        exact bodyPost_ret (v := .agg #[.int .i64 (p2 * p2), .int .i64 (p2 * p2)]) (by simp [results, Tryd.results43, go_sem, SF.cell0, SF.cell1]) rfl ⟨by rw [E2.out]; rfl, hb.os, hb.tape, hb.output, hb.size, hb.block⟩
      · have E2 : Hid (sqE (p1, p2) = (p2 * p2, p1 * p1)) := by rw [E1.out, show min (p1 * p1) (p2 * p2) = p2 * p2 by omega, show max (p1 * p1) (p2 * p2) = p1 * p1 by omega]; exact rfl
        clear E1
        have SF := (HR.out.set0 (.int .i64 (p2 * p2))).set1 (.int .i64 (p1 * p1))
        have hb := (HB.out.setCell (p := ⟨w.heap.size + 1, 0, none⟩) (by simp only; omega) (.int .i64 (p2 * p2))).setCell (p := ⟨w.heap.size + 1, 1, none⟩) (by simp only; omega) (.int .i64 (p1 * p1))
        go_wp2_with fail
        exact bodyPost_ret (v := .agg #[.int .i64 (p2 * p2), .int .i64 (p1 * p1)]) (by simp [results, Tryd.results43, go_sem, SF.cell0, SF.cell1]) rfl ⟨by rw [E2.out]; rfl, hb.os, hb.tape, hb.output, hb.size, hb.block⟩
  · have E1 : Hid (sqE (p1, p2) = (min (p1 * p1) (p2 * p2), max (p1 * p1) (p2 * p2))) := by rw [E.out, if_neg (fun h => c1 h.1)]; exact rfl
    clear E
    rcases Int.lt_trichotomy (p1 * p1) (p2 * p2) with c3 | c3 | c3
    · have E2 : Hid (sqE (p1, p2) = (p1 * p1, p2 * p2)) := by rw [E1.out, show min (p1 * p1) (p2 * p2) = p1 * p1 by omega, show max (p1 * p1) (p2 * p2) = p2 * p2 by omega]; exact rfl
      clear E1
      have SF := (HR.out.set0 (.int .i64 (p1 * p1))).set1 (.int .i64 (p2 * p2))
      have hb := (HB.out.setCell (p := ⟨w.heap.size + 1, 0, none⟩) (by simp only; omega) (.int .i64 (p1 * p1))).setCell (p := ⟨w.heap.size + 1, 1, none⟩) (by simp only; omega) (.int .i64 (p2 * p2))
      go_wp2_with fail
      exact bodyPost_ret (v := .agg #[.int .i64 (p1 * p1), .int .i64 (p2 * p2)]) (by simp [results, Tryd.results43, go_sem, SF.cell0, SF.cell1]) rfl ⟨by rw [E2.out]; rfl, hb.os, hb.tape, hb.output, hb.size, hb.block⟩
    · have E2 : Hid (sqE (p1, p2) = (p2 * p2, p2 * p2)) := by rw [E1.out, show min (p1 * p1) (p2 * p2) = p2 * p2 by omega, show max (p1 * p1) (p2 * p2) = p2 * p2 by omega]; exact rfl
      clear E1
      have SF := (HR.out.set0 (.int .i64 (p2 * p2))).set1 (.int .i64 (p2 * p2))
      have hb := (HB.out.setCell (p := ⟨w.heap.size + 1, 0, none⟩) (by simp only; omega) (.int .i64 (p2 * p2))).setCell (p := ⟨w.heap.size + 1, 1, none⟩) (by simp only; omega) (.int .i64 (p2 * p2))
      go_wp2_with fail
      exact bodyPost_ret (v := .agg #[.int .i64 (p2 * p2), .int .i64 (p2 * p2)]) (by simp [results, Tryd.results43, go_sem, SF.cell0, SF.cell1]) rfl ⟨by rw [E2.out]; rfl, hb.os, hb.tape, hb.output, hb.size, hb.block⟩
    · have E2 : Hid (sqE (p1, p2) = (p2 * p2, p1 * p1)) := by rw [E1.out, show min (p1 * p1) (p2 * p2) = p2 * p2 by omega, show max (p1 * p1) (p2 * p2) = p1 * p1 by omega]; exact rfl
      clear E1
      have SF := (HR.out.set0 (.int .i64 (p2 * p2))).set1 (.int .i64 (p1 * p1))
      have hb := (HB.out.setCell (p := ⟨w.heap.size + 1, 0, none⟩) (by simp only; omega) (.int .i64 (p2 * p2))).setCell (p := ⟨w.heap.size + 1, 1, none⟩) (by simp only; omega) (.int .i64 (p1 * p1))
      go_wp2_with fail
      exact bodyPost_ret (v := .agg #[.int .i64 (p2 * p2), .int .i64 (p1 * p1)]) (by simp [results, Tryd.results43, go_sem, SF.cell0, SF.cell1]) rfl ⟨by rw [E2.out]; rfl, hb.os, hb.tape, hb.output, hb.size, hb.block⟩
theorem prod_bd {p q : Int × Int} (hp : Fit p) (hq : Fit q) : -10000000200000001 ≤ (prodE p q).1 ∧ (prodE p q).1 ≤ 10000000200000001 ∧ -10000000200000001 ≤ (prodE p q).2 ∧ (prodE p q).2 ≤ 10000000200000001 := by
  obtain ⟨⟨a1, a2⟩, ⟨b1, b2⟩, ⟨c1, c2⟩, d1, d2⟩ := fit_prod hp hq
  unfold prodE
  simp only
  omega
theorem sq_bd {p : Int × Int} (hp : Fit p) : -10000000200000001 ≤ (sqE p).1 ∧ (sqE p).1 ≤ 10000000200000001 ∧ -10000000200000001 ≤ (sqE p).2 ∧ (sqE p).2 ≤ 10000000200000001 := by
  obtain ⟨⟨a1, a2⟩, ⟨b1, b2⟩, ⟨c1, c2⟩, d1, d2⟩ := fit_prod hp hp
  have := prod_bd hp hp
  unfold sqE
  split
  · simp only; omega
  · simp only; omega
end Go.Proofs.YtnjedigjabijcaaDoor
