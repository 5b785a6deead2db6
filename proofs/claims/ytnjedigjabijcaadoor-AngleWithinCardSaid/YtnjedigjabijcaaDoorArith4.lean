import Derived.Test.YtnjedigjabijcaaDoorArith3
namespace Go.Proofs.YtnjedigjabijcaaDoor
open Go Go.RowKit

theorem both_no {a b : Bool} (h : (a && b) = false) : a = false ∨ (a = true ∧ b = false) := by cases a <;> simp_all
theorem both_yes {a b : Bool} (h : (a && b) = true) : a = true ∧ b = true := by cases a <;> simp_all
abbrev inV (x : Int × Int) : Bool := inB x.1 x.2 (-3000000000) 3000000000

/-- The first steps of the reference's functions of two enclosures: they lie in two blocks, the result in a third one, and both in a list. -/
theorem rstart (x y : Int × Int) (w : World) :
    Slot2 ((((w.alloc (.cells #[.int .i64 x.1, .int .i64 x.2] 23)).alloc (.cells #[.int .i64 y.1, .int .i64 y.2] 23)).alloc (.cells #[.int .i64 0, .int .i64 0] 23)).alloc (.cells #[.int .i64 x.1, .int .i64 x.2, .int .i64 y.1, .int .i64 y.2] 23)) w.heap.size (.int .i64 x.1) (.int .i64 x.2) ∧
    Slot2 ((((w.alloc (.cells #[.int .i64 x.1, .int .i64 x.2] 23)).alloc (.cells #[.int .i64 y.1, .int .i64 y.2] 23)).alloc (.cells #[.int .i64 0, .int .i64 0] 23)).alloc (.cells #[.int .i64 x.1, .int .i64 x.2, .int .i64 y.1, .int .i64 y.2] 23)) (w.heap.size + 1) (.int .i64 y.1) (.int .i64 y.2) ∧
    Slot2 ((((w.alloc (.cells #[.int .i64 x.1, .int .i64 x.2] 23)).alloc (.cells #[.int .i64 y.1, .int .i64 y.2] 23)).alloc (.cells #[.int .i64 0, .int .i64 0] 23)).alloc (.cells #[.int .i64 x.1, .int .i64 x.2, .int .i64 y.1, .int .i64 y.2] 23)) (w.heap.size + 1 + 1) (.int .i64 0) (.int .i64 0) ∧
    Row2 ((((w.alloc (.cells #[.int .i64 x.1, .int .i64 x.2] 23)).alloc (.cells #[.int .i64 y.1, .int .i64 y.2] 23)).alloc (.cells #[.int .i64 0, .int .i64 0] 23)).alloc (.cells #[.int .i64 x.1, .int .i64 x.2, .int .i64 y.1, .int .i64 y.2] 23)) (w.heap.size + 1 + 1 + 1) 0 [x, y] ∧
    Below w.heap.size w ((((w.alloc (.cells #[.int .i64 x.1, .int .i64 x.2] 23)).alloc (.cells #[.int .i64 y.1, .int .i64 y.2] 23)).alloc (.cells #[.int .i64 0, .int .i64 0] 23)).alloc (.cells #[.int .i64 x.1, .int .i64 x.2, .int .i64 y.1, .int .i64 y.2] 23)) := by
  have s1 := (((Slot2.new w (.int .i64 x.1) (.int .i64 x.2) 23).alloc (.cells #[.int .i64 y.1, .int .i64 y.2] 23)).alloc (.cells #[.int .i64 0, .int .i64 0] 23)).alloc (.cells #[.int .i64 x.1, .int .i64 x.2, .int .i64 y.1, .int .i64 y.2] 23)
  have s2 := ((Slot2.new (w.alloc (.cells #[.int .i64 x.1, .int .i64 x.2] 23)) (.int .i64 y.1) (.int .i64 y.2) 23).alloc (.cells #[.int .i64 0, .int .i64 0] 23)).alloc (.cells #[.int .i64 x.1, .int .i64 x.2, .int .i64 y.1, .int .i64 y.2] 23)
  have s3 := (Slot2.new ((w.alloc (.cells #[.int .i64 x.1, .int .i64 x.2] 23)).alloc (.cells #[.int .i64 y.1, .int .i64 y.2] 23)) (.int .i64 0) (.int .i64 0) 23).alloc (.cells #[.int .i64 x.1, .int .i64 x.2, .int .i64 y.1, .int .i64 y.2] 23)
  have s4 := Row2.two (((w.alloc (.cells #[.int .i64 x.1, .int .i64 x.2] 23)).alloc (.cells #[.int .i64 y.1, .int .i64 y.2] 23)).alloc (.cells #[.int .i64 0, .int .i64 0] 23)) x y 23
  simp only [World.size_alloc] at s2 s3 s4
  exact ⟨s1, s2, s3, s4, below_alloc (below_alloc (below_alloc (alloc_below w _) _) _) _⟩

theorem prods {x y : Int × Int} (hx : inV x = true) (hy : inV y = true) : (-9223372036854775807 ≤ x.1 * y.1 ∧ x.1 * y.1 ≤ 9223372036854775807) ∧ (-9223372036854775807 ≤ x.1 * y.2 ∧ x.1 * y.2 ≤ 9223372036854775807) ∧
    (-9223372036854775807 ≤ x.2 * y.1 ∧ x.2 * y.1 ≤ 9223372036854775807) ∧ (-9223372036854775807 ≤ x.2 * y.2 ∧ x.2 * y.2 ≤ 9223372036854775807) := by
  obtain ⟨i1, i2, i3⟩ := inB_yes hx
  obtain ⟨j1, j2, j3⟩ := inB_yes hy
  exact ⟨prod_bound (by omega) (by omega) (by omega) (by omega), prod_bound (by omega) (by omega) (by omega) (by omega), prod_bound (by omega) (by omega) (by omega) (by omega), prod_bound (by omega) (by omega) (by omega) (by omega)⟩
def four (a b c d : Int) : Nat → Int
  | 0 => a
  | 1 => b
  | 2 => c
  | _ => d
theorem acc4_least (n d : Nat → Int) : acc4 (fun i => quoP (n i) (d i)) 4 = leastE (n 0, n 1, n 2, n 3) (d 0, d 1, d 2, d 3) := rfl
theorem four_all {p : Int → Prop} {a b c d : Int} (ha : p a) (hb : p b) (hc : p c) (hd : p d) : ∀ i, i < 4 → p (four a b c d i) := by
  intro i hi
  have : i = 0 ∨ i = 1 ∨ i = 2 ∨ i = 3 := by omega
  rcases this with rfl | rfl | rfl | rfl <;> assumption
theorem least_four (a b c d a' b' c' d' : Int) (h1 : -9223372036854775807 ≤ a ∧ a ≤ 9223372036854775807) (h2 : -9223372036854775807 ≤ b ∧ b ≤ 9223372036854775807) (h3 : -9223372036854775807 ≤ c ∧ c ≤ 9223372036854775807) (h4 : -9223372036854775807 ≤ d ∧ d ≤ 9223372036854775807)
    (g1 : 1 ≤ a') (g2 : 1 ≤ b') (g3 : 1 ≤ c') (g4 : 1 ≤ d') (q : Int × Int) (hq : leastE (a, b, c, d) (a', b', c', d') = q) (w : World) :
    Calls Tryd.prog 64 #[.agg #[.int .i64 a, .int .i64 b, .int .i64 c, .int .i64 d], .agg #[.int .i64 a', .int .i64 b', .int .i64 c', .int .i64 d']] w
      fun e w' => e = .returned (.tuple #[.int .i64 q.1, .int .i64 q.2]) ∧ Below w.heap.size w w' := by
  have h := least_any (four a b c d) (four a' b' c' d') (four_all (p := fun t => -9223372036854775807 ≤ t ∧ t ≤ 9223372036854775807) h1 h2 h3 h4) (four_all (p := fun t => 1 ≤ t) g1 g2 g3 g4) w
  rw [acc4_least] at h
  subst hq
  exact h
theorem least_times_any (x y : Int × Int) (hx : inV x = true) (hy : inV y = true) (w : World) :
    Calls Tryd.prog 64 #[.agg #[.int .i64 (x.1 * y.1), .int .i64 (x.1 * y.2), .int .i64 (x.2 * y.1), .int .i64 (x.2 * y.2)], .agg #[.int .i64 100000000, .int .i64 100000000, .int .i64 100000000, .int .i64 100000000]] w
      fun e w' => e = .returned (.tuple #[.int .i64 (cornE timesQ x y).1, .int .i64 (cornE timesQ x y).2]) ∧ Below w.heap.size w w' := by
  obtain ⟨p1, p2, p3, p4⟩ := prods hx hy
  exact least_four _ _ _ _ _ _ _ _ p1 p2 p3 p4 (by omega) (by omega) (by omega) (by omega) _ (least_times x y) w
theorem least_pos_any (x y : Int × Int) (hx : inV x = true) (hy : inV y = true) (h : 0 < y.1) (w : World) :
    Calls Tryd.prog 64 #[.agg #[.int .i64 (x.1 * 100000000), .int .i64 (x.1 * 100000000), .int .i64 (x.2 * 100000000), .int .i64 (x.2 * 100000000)], .agg #[.int .i64 y.1, .int .i64 y.2, .int .i64 y.1, .int .i64 y.2]] w
      fun e w' => e = .returned (.tuple #[.int .i64 (cornE overQ x y).1, .int .i64 (cornE overQ x y).2]) ∧ Below w.heap.size w w' := by
  obtain ⟨i1, i2, i3⟩ := inB_yes hx
  obtain ⟨j1, j2, j3⟩ := inB_yes hy
  exact least_four _ _ _ _ _ _ _ _ (by omega) (by omega) (by omega) (by omega) (by omega) (by omega) (by omega) (by omega) _ (least_over_pos x y j2 h) w
theorem least_neg_any (x y : Int × Int) (hx : inV x = true) (hy : inV y = true) (h : y.2 < 0) (w : World) :
    Calls Tryd.prog 64 #[.agg #[.int .i64 (-x.2 * 100000000), .int .i64 (-x.2 * 100000000), .int .i64 (-x.1 * 100000000), .int .i64 (-x.1 * 100000000)], .agg #[.int .i64 (-y.2), .int .i64 (-y.1), .int .i64 (-y.2), .int .i64 (-y.1)]] w
      fun e w' => e = .returned (.tuple #[.int .i64 (cornE overQ x y).1, .int .i64 (cornE overQ x y).2]) ∧ Below w.heap.size w w' := by
  obtain ⟨i1, i2, i3⟩ := inB_yes hx
  obtain ⟨j1, j2, j3⟩ := inB_yes hy
  exact least_four _ _ _ _ _ _ _ _ (by omega) (by omega) (by omega) (by omega) (by omega) (by omega) (by omega) (by omega) _ (least_over_neg x y j2 h) w

theorem negW_eq (a : Int) : negW a = wrap64 (-a) := by
  unfold negW wrap64
  simp [IntKind.wrap, IntKind.signed, IntKind.bits]
  omega
set_option maxHeartbeats 1000000 in
theorem negw_any (lo hi : Int) (w : World) :
    Calls Tryd.prog 60 #[.agg #[.int .i64 lo, .int .i64 hi]] w fun e w' => e = .returned (.agg #[.int .i64 (negW hi), .int .i64 (negW lo)]) ∧ Below w.heap.size w w' := by
  have SX := (Slot2.new w (.int .i64 lo) (.int .i64 hi) 23).alloc (.cells #[.int .i64 0, .int .i64 0] 23)
  obtain ⟨_, a0, a1, _, _⟩ := SX
  rw [negW_eq, negW_eq]
  go_enter Tryd.func60, Tryd.ntmps60
  go_wp2_with fail
  refine bodyPost_ret (v := .agg #[.int .i64 (wrap64 (-hi)), .int .i64 (wrap64 (-lo))]) (by simp [results, Tryd.results60, go_sem]) rfl ⟨rfl, by go_grown⟩

set_option maxRecDepth 10000 in
set_option maxHeartbeats 4000000 in
theorem rplus_any (x y : Int × Int) (w : World) :
    Calls Tryd.prog 30 #[.agg #[.int .i64 x.1, .int .i64 x.2], .agg #[.int .i64 y.1, .int .i64 y.2]] w fun e w' => e = .returned (pairV (plusE x y).1 (plusE x y).2) ∧ Below w.heap.size w w' := by
  obtain ⟨SX0, SY0, SR0, RO, hW⟩ := rstart x y w
  have HC := Lib.hid (fun cap => valued_any (w.heap.size + 1 + 1 + 1) 0 cap [x, y] (by simp) _ RO)
  clear RO
  go_enter Tryd.func30, Tryd.ntmps30
  go_wp2_with fail
  refine (HC.out _).mono ?_
  rintro e w1 ⟨rfl, hB1⟩
  have SX := SX0.next hB1
  have SY := SY0.next hB1
  have SR := SR0.next hB1
  have hB := below_next hW hB1
  clear SX0 SY0 SR0 hW hB1 HC
  cases hc : inV x && inV y
  · have E := Lib.hid (plusE_no hc)
    rw [valE_two_no hc]
    clear hc SX SY
    have SF := SR.both (.int .i64 0) (.int .i64 0)
    have HB := Lib.hid (below_both hB (by omega : w.heap.size ≤ w.heap.size + 1 + 1) (.int .i64 0) (.int .i64 0))
    obtain ⟨liesR, r0, r1, rf0, rf1⟩ := SR
    clear hB
    go_wp2_with fail
    refine bodyPost_ret (v := pairV (0, 0) 7) (by simp [results, Tryd.results30, go_sem, SF.cell0, SF.cell1]; exact rfl) rfl ⟨by rw [E.out], HB.out⟩
  · obtain ⟨hx, hy⟩ := both_yes hc
    have E := Lib.hid (plusE_ok hx hy)
    rw [valE_two_yes hc]
    obtain ⟨i1, i2, i3⟩ := inB_yes hx
    obtain ⟨j1, j2, j3⟩ := inB_yes hy
    have SR3 := Lib.hid SR
    have HB2 := Lib.hid hB
    obtain ⟨_, a0, a1, _, _⟩ := SX
    obtain ⟨_, b0, b1, _, _⟩ := SY
    clear hc hx hy SR hB
    go_wp2_with fail
    refine (result_any _ _ _).mono ?_
    rintro e w4 ⟨rfl, hB4⟩
    have SR4 := SR3.out.next hB4
    have hB5 := below_next HB2.out hB4
    clear SR3 HB2 hB4 a0 a1 b0 b1 i1 i2 i3 j1 j2 j3
    generalize hq : checkedE (x.1 + y.1, x.2 + y.2) = q at *
    have E2 := Lib.hid hq
    clear hq
    have SF := SR4.both (.int .i64 q.1.1) (.int .i64 q.1.2)
    have HB := Lib.hid (below_both hB5 (by omega : w.heap.size ≤ w.heap.size + 1 + 1) (.int .i64 q.1.1) (.int .i64 q.1.2))
    obtain ⟨liesR, r0, r1, rf0, rf1⟩ := SR4
    clear hB5
    unfold pairV
    go_wp2_with fail
    refine bodyPost_ret (v := pairV q.1 q.2) (by simp [results, Tryd.results30, go_sem, SF.cell0, SF.cell1]; exact rfl) rfl ⟨by rw [E.out], HB.out⟩
set_option maxRecDepth 10000 in
set_option maxHeartbeats 4000000 in
theorem rminus_any (x y : Int × Int) (w : World) :
    Calls Tryd.prog 32 #[.agg #[.int .i64 x.1, .int .i64 x.2], .agg #[.int .i64 y.1, .int .i64 y.2]] w fun e w' => e = .returned (pairV (minusE x y).1 (minusE x y).2) ∧ Below w.heap.size w w' := by
  obtain ⟨SX0, SY0, SR0, RO, hW⟩ := rstart x y w
  have HC := Lib.hid (fun cap => valued_any (w.heap.size + 1 + 1 + 1) 0 cap [x, y] (by simp) _ RO)
  clear RO
  go_enter Tryd.func32, Tryd.ntmps32
  go_wp2_with fail
  refine (HC.out _).mono ?_
  rintro e w1 ⟨rfl, hB1⟩
  have SX := SX0.next hB1
  have SY := SY0.next hB1
  have SR := SR0.next hB1
  have hB := below_next hW hB1
  clear SX0 SY0 SR0 hW hB1 HC
  cases hc : inV x && inV y
  · have E := Lib.hid (minusE_no hc)
    rw [valE_two_no hc]
    clear hc SX SY
    have SF := SR.both (.int .i64 0) (.int .i64 0)
    have HB := Lib.hid (below_both hB (by omega : w.heap.size ≤ w.heap.size + 1 + 1) (.int .i64 0) (.int .i64 0))
    obtain ⟨liesR, r0, r1, rf0, rf1⟩ := SR
    clear hB
    go_wp2_with fail
    refine bodyPost_ret (v := pairV (0, 0) 7) (by simp [results, Tryd.results32, go_sem, SF.cell0, SF.cell1]; exact rfl) rfl ⟨by rw [E.out], HB.out⟩
  · obtain ⟨hx, hy⟩ := both_yes hc
    have E := Lib.hid (minusE_ok hx hy)
    rw [valE_two_yes hc]
    obtain ⟨i1, i2, i3⟩ := inB_yes hx
    obtain ⟨j1, j2, j3⟩ := inB_yes hy
    have SR3 := Lib.hid SR
    have HB2 := Lib.hid hB
    obtain ⟨_, a0, a1, _, _⟩ := SX
    obtain ⟨_, b0, b1, _, _⟩ := SY
    clear hc hx hy SR hB
    go_wp2_with fail
    refine (result_any _ _ _).mono ?_
    rintro e w4 ⟨rfl, hB4⟩
    have SR4 := SR3.out.next hB4
    have hB5 := below_next HB2.out hB4
    clear SR3 HB2 hB4 a0 a1 b0 b1 i1 i2 i3 j1 j2 j3
    generalize hq : checkedE (x.1 - y.2, x.2 - y.1) = q at *
    have E2 := Lib.hid hq
    clear hq
    have SF := SR4.both (.int .i64 q.1.1) (.int .i64 q.1.2)
    have HB := Lib.hid (below_both hB5 (by omega : w.heap.size ≤ w.heap.size + 1 + 1) (.int .i64 q.1.1) (.int .i64 q.1.2))
    obtain ⟨liesR, r0, r1, rf0, rf1⟩ := SR4
    clear hB5
    unfold pairV
    go_wp2_with fail
    refine bodyPost_ret (v := pairV q.1 q.2) (by simp [results, Tryd.results32, go_sem, SF.cell0, SF.cell1]; exact rfl) rfl ⟨by rw [E.out], HB.out⟩
set_option maxRecDepth 10000 in
set_option maxHeartbeats 4000000 in
theorem rtimes_any (x y : Int × Int) (w : World) :
    Calls Tryd.prog 34 #[.agg #[.int .i64 x.1, .int .i64 x.2], .agg #[.int .i64 y.1, .int .i64 y.2]] w fun e w' => e = .returned (pairV (timesE x y).1 (timesE x y).2) ∧ Below w.heap.size w w' := by
  obtain ⟨SX0, SY0, SR0, RO, hW⟩ := rstart x y w
  have HC := Lib.hid (fun cap => valued_any (w.heap.size + 1 + 1 + 1) 0 cap [x, y] (by simp) _ RO)
  clear RO
  go_enter Tryd.func34, Tryd.ntmps34
  go_wp2_with fail
  refine (HC.out _).mono ?_
  rintro e w1 ⟨rfl, hB1⟩
  have SX := SX0.next hB1
  have SY := SY0.next hB1
  have SR := SR0.next hB1
  have hB := below_next hW hB1
  clear SX0 SY0 SR0 hW hB1 HC
  cases hc : inV x && inV y
  · have E := Lib.hid (timesE_no hc)
    rw [valE_two_no hc]
    clear hc SX SY
    have SF := SR.both (.int .i64 0) (.int .i64 0)
    have HB := Lib.hid (below_both hB (by omega : w.heap.size ≤ w.heap.size + 1 + 1) (.int .i64 0) (.int .i64 0))
    obtain ⟨liesR, r0, r1, rf0, rf1⟩ := SR
    clear hB
    go_wp2_with fail
    refine bodyPost_ret (v := pairV (0, 0) 7) (by simp [results, Tryd.results34, go_sem, SF.cell0, SF.cell1]; exact rfl) rfl ⟨by rw [E.out], HB.out⟩
  · obtain ⟨hx, hy⟩ := both_yes hc
    have E := Lib.hid (timesE_ok hx hy)
    rw [valE_two_yes hc]
    have HL := Lib.hid (least_times_any x y hx hy)
    obtain ⟨⟨m1, m2⟩, ⟨m3, m4⟩, ⟨m5, m6⟩, ⟨m7, m8⟩⟩ := prods hx hy
    have SR3 := Lib.hid SR
    have HB2 := Lib.hid hB
    obtain ⟨_, a0, a1, _, _⟩ := SX
    obtain ⟨_, b0, b1, _, _⟩ := SY
    clear hc hx hy SR hB
    go_wp2_with fail
    refine (HL.out _).mono ?_
    rintro e w3 ⟨rfl, hB3⟩
    clear a0 a1 b0 b1 m1 m2 m3 m4 m5 m6 m7 m8
    go_wp2_with fail
    refine (result_any _ _ _).mono ?_
    rintro e w4 ⟨rfl, hB4⟩
    have SR4 := (SR3.out.next hB3).next hB4
    have hB5 := below_next (below_next HB2.out hB3) hB4
    clear SR3 HB2 hB3 hB4 HL
    have he : ((cornE timesQ x y).1, (cornE timesQ x y).2) = cornE timesQ x y := rfl
    rw [he]
    clear he
    generalize hq : checkedE (cornE timesQ x y) = q at *
    have E2 := Lib.hid hq
    clear hq
    have SF := SR4.both (.int .i64 q.1.1) (.int .i64 q.1.2)
    have HB := Lib.hid (below_both hB5 (by omega : w.heap.size ≤ w.heap.size + 1 + 1) (.int .i64 q.1.1) (.int .i64 q.1.2))
    obtain ⟨liesR, r0, r1, rf0, rf1⟩ := SR4
    clear hB5
    unfold pairV
    go_wp2_with fail
    refine bodyPost_ret (v := pairV q.1 q.2) (by simp [results, Tryd.results34, go_sem, SF.cell0, SF.cell1]; exact rfl) rfl ⟨by rw [E.out], HB.out⟩
end Go.Proofs.YtnjedigjabijcaaDoor
