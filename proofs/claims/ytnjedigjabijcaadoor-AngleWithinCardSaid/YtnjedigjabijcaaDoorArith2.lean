import Derived.Test.YtnjedigjabijcaaDoorArith1
namespace Go.Proofs.YtnjedigjabijcaaDoor
open Go Go.RowKit

theorem Slot2.row (V : World) (b : Nat) (p : Int × Int) (h : Slot2 V b (.int .i64 p.1) (.int .i64 p.2)) : Row2 V b 0 [p] := by
  refine ⟨h.lies, fun i hi => ?_⟩
  obtain rfl : i = 0 := by simp at hi; omega
  exact ⟨h.cell0, h.cell1⟩
theorem Row2.two (V : World) (x y : Int × Int) (T : TypeId) : Row2 (V.alloc (.cells #[.int .i64 x.1, .int .i64 x.2, .int .i64 y.1, .int .i64 y.2] T)) V.heap.size 0 [x, y] := by
  refine ⟨by simp, fun i hi => ?_⟩
  have : i = 0 ∨ i = 1 := by simp at hi; omega
  rcases this with rfl | rfl <;> exact ⟨by simp [go_sem], by simp [go_sem]⟩
theorem valE_one (p : Int × Int) : valE [p] = (checkedE p).2 := by
  unfold valE checkedE
  simp only [List.all_cons, List.all_nil, Bool.and_true]
  split <;> rfl
theorem valE_two_yes {x y : Int × Int} (h : (inB x.1 x.2 (-3000000000) 3000000000 && inB y.1 y.2 (-3000000000) 3000000000) = true) : valE [x, y] = 0 := by
  unfold valE
  simp only [List.all_cons, List.all_nil, Bool.and_true]
  rw [h]; rfl
theorem valE_two_no {x y : Int × Int} (h : (inB x.1 x.2 (-3000000000) 3000000000 && inB y.1 y.2 (-3000000000) 3000000000) = false) : valE [x, y] = 7 := by
  unfold valE
  simp only [List.all_cons, List.all_nil, Bool.and_true]
  rw [h]; rfl

set_option maxHeartbeats 2000000 in
/-- An enclosure of values, or an error. -/
theorem result_any (lo hi : Int) (w : World) :
    Calls Tryd.prog 57 #[.int .i64 lo, .int .i64 hi] w fun e w' => e = .returned (pairV (checkedE (lo, hi)).1 (checkedE (lo, hi)).2) ∧ Below w.heap.size w w' := by
  have SR0 := ((Slot2.new w (.int .i64 0) (.int .i64 0) 23).alloc (.cells #[.int .i64 lo, .int .i64 hi] 23)).alloc (.cells #[.int .i64 lo, .int .i64 hi] 23)
  have SX0 := (Slot2.new (w.alloc (.cells #[.int .i64 0, .int .i64 0] 23)) (.int .i64 lo) (.int .i64 hi) 23).alloc (.cells #[.int .i64 lo, .int .i64 hi] 23)
  have SV0 := Slot2.new ((w.alloc (.cells #[.int .i64 0, .int .i64 0] 23)).alloc (.cells #[.int .i64 lo, .int .i64 hi] 23)) (.int .i64 lo) (.int .i64 hi) 23
  have hW := below_alloc (below_alloc (alloc_below w (.cells #[.int .i64 0, .int .i64 0] 23)) (.cells #[.int .i64 lo, .int .i64 hi] 23)) (.cells #[.int .i64 lo, .int .i64 hi] 23)
  simp only [World.size_alloc] at SX0 SV0
  have HC := Lib.hid (fun cap => valued_any (w.heap.size + 1 + 1) 0 cap [(lo, hi)] (by simp) _ (SV0.row _ _ (lo, hi)))
  clear SV0
  go_enter Tryd.func57, Tryd.ntmps57
  go_wp2_with fail
  refine (HC.out _).mono ?_
  rintro e w1 ⟨rfl, hB1⟩
  have SR := SR0.next hB1
  have SX := SX0.next hB1
  have hB := below_next hW hB1
  clear SR0 SX0 hW hB1 HC
  rw [valE_one]
  cases hc : inB lo hi (-3000000000) 3000000000
  · have E := Lib.hid (checked_no (p := (lo, hi)) hc)
    rw [checked_no (p := (lo, hi)) hc]
    clear hc SX
    have SF := SR.both (.int .i64 0) (.int .i64 0)
    have HB := Lib.hid (below_both hB (Nat.le_refl _) (.int .i64 0) (.int .i64 0))
    obtain ⟨liesR, r0, r1, rf0, rf1⟩ := SR
    clear hB
    simp only
    go_wp2_with fail
    refine bodyPost_ret (v := pairV (0, 0) 7) (by simp [results, Tryd.results57, go_sem, SF.cell0, SF.cell1]; exact rfl) rfl ⟨by rw [E.out], HB.out⟩
  · have E := Lib.hid (checked_yes (p := (lo, hi)) hc)
    rw [checked_yes (p := (lo, hi)) hc]
    clear hc
    have SF := SR.both (.int .i64 lo) (.int .i64 hi)
    have HB := Lib.hid (below_both hB (Nat.le_refl _) (.int .i64 lo) (.int .i64 hi))
    obtain ⟨liesR, r0, r1, rf0, rf1⟩ := SR
    obtain ⟨_, a0, a1, _, _⟩ := SX
    clear hB
    simp only
    go_wp2_with fail
    refine bodyPost_ret (v := pairV (lo, hi) 0) (by simp [results, Tryd.results57, go_sem, SF.cell0, SF.cell1]; exact rfl) rfl ⟨by rw [E.out], HB.out⟩

theorem floor_rest (n d : Int) (hd : 1 ≤ d) (hn : n < 0) (hm : ¬ n.tmod d = 0) : n.tdiv d - 1 = n / d := by
  have h := floor_neg n d hn hd
  rw [if_pos] at h
  · exact h
  · have e : n.tmod d = -((-n).tmod d) := by rw [Int.neg_tmod]; omega
    have := Int.tmod_nonneg d (show 0 ≤ -n by omega)
    omega
theorem floor_even (n d : Int) (hd : 1 ≤ d) (hn : n < 0) (hm : n.tmod d = 0) : n.tdiv d = n / d := by
  have h := floor_neg n d hn hd
  rw [if_neg (by omega)] at h
  exact h

set_option maxHeartbeats 1000000 in
/-- The reference's quotient, rounded down. -/
theorem rdown_any (n d : Int) (hd : 1 ≤ d) (h0 : -9223372036854775807 ≤ n) (h1 : n ≤ 9223372036854775807) (w : World) :
    Calls Tryd.prog 85 #[.int .i64 n, .int .i64 d] w fun e w' => e = .returned (.int .i64 (n / d)) ∧ w = w' := by
  have hb := floor_bd n d hd h0 h1
  rcases Int.lt_or_le n 0 with hn | hn
  · by_cases hm : n.tmod d = 0
    · have E' := Lib.hid (floor_even n d hd hn hm)
      have hm1 : (n.tmod d == 0) = true := by simp [hm]
      have hm2 : (n.tmod d != 0) = false := by simp [hm]
      clear hb hm
      go_enter Tryd.func85, Tryd.ntmps85
      go_wp2
      go_ret; exact ⟨ret_int E'.out, rfl⟩
    · have E := floor_rest n d hd hn hm
      have b1 : -9223372036854775807 ≤ n.tdiv d - 1 ∧ n.tdiv d - 1 ≤ 9223372036854775807 := by omega
      have E' := Lib.hid E
      have hm1 : (n.tmod d == 0) = false := by simp [hm]
      have hm2 : (n.tmod d != 0) = true := by simp [hm]
      clear E hb hm
      go_enter Tryd.func85, Tryd.ntmps85
      go_wp2
      go_ret; exact ⟨ret_int E'.out, rfl⟩
  · have hr := Int.emod_nonneg n (show d ≠ 0 by omega)
    go_enter Tryd.func85, Tryd.ntmps85
    go_wp2
    all_goals (go_ret; exact ⟨rfl, rfl⟩)

set_option maxHeartbeats 1000000 in
theorem rneg_any (lo hi : Int) (h0 : -9223372036854775807 ≤ lo ∧ lo ≤ 9223372036854775807) (h1 : -9223372036854775807 ≤ hi ∧ hi ≤ 9223372036854775807) (w : World) :
    Calls Tryd.prog 66 #[.agg #[.int .i64 lo, .int .i64 hi]] w fun e w' => e = .returned (.agg #[.int .i64 (-hi), .int .i64 (-lo)]) ∧ Below w.heap.size w w' := by
  have SX := (Slot2.new w (.int .i64 lo) (.int .i64 hi) 23).alloc (.cells #[.int .i64 0, .int .i64 0] 23)
  obtain ⟨_, a0, a1, _, _⟩ := SX
  obtain ⟨i0, i1⟩ := h0
  obtain ⟨j0, j1⟩ := h1
  go_enter Tryd.func66, Tryd.ntmps66
  go_wp2_with fail
  refine bodyPost_ret (v := .agg #[.int .i64 (-hi), .int .i64 (-lo)]) (by simp [results, Tryd.results66, go_sem]) rfl ⟨rfl, by go_grown⟩
end Go.Proofs.YtnjedigjabijcaaDoor
