import Derived.Test.YtnjedigjabijcaaDoorEncl
namespace Go.Proofs.YtnjedigjabijcaaDoor
open Go Go.RowKit

theorem MarkTab.drew {V : World} (h : MarkTab V) : MarkTab V.drew := h

set_option maxRecDepth 100000 in
set_option maxHeartbeats 8000000 in
theorem law_encl_yes (lo hi t : Int) (s c p q l h : Int × Int) (w : World) (hm : MarkTab w) (hp : PowTab w)
    (b1 : -3600000000 ≤ lo) (b2 : lo ≤ hi) (b3 : hi ≤ 3600000000) (t0 : 0 ≤ t) (t1 : t ≤ 255) (pr0 : 0 ≤ (hi - lo) * t) (pr1 : (hi - lo) * t ≤ 2000000000000)
    (av : (hi - lo) * t / 255 ≤ hi - lo)
    (E1 : sinOfE lo hi = (s, 0)) (E2 : cosOfE lo hi = (c, 0)) (E3 : sinOfE (lo + (hi - lo) * t / 255) (lo + (hi - lo) * t / 255) = (p, 0)) (E4 : cosOfE (lo + (hi - lo) * t / 255) (lo + (hi - lo) * t / 255) = (q, 0))
    (E5 : sinOfE lo lo = (l, 0)) (E6 : sinOfE hi hi = (h, 0)) (I1 : inE p s = true) (I2 : inE q c = true)
    (FL : (s.1 == min l.1 h.1) = true ∨ ((s.1 == min l.1 h.1) = false ∧ (s.1 == -100000000) = true))
    (FH : (s.2 == max l.2 h.2) = true ∨ ((s.2 == max l.2 h.2) = false ∧ (s.2 == 100000000) = true))
    (FT : hi - lo < 360000000 ∨ (360000000 ≤ hi - lo ∧ s = (-100000000, 100000000))) :
    Calls Tryd.prog 8 #[.agg #[.int .i64 lo, .int .i64 hi], .int .u8 t] w fun e w' => e = .returned (.bool true) ∧ Below w.heap.size w w' := by
  have HM := Lib.hid hm
  have HP := Lib.hid hp
  have F1 := Lib.hid E1
  have F2 := Lib.hid E2
  have F3 := Lib.hid E3
  have F4 := Lib.hid E4
  have F5 := Lib.hid E5
  have F6 := Lib.hid E6
  have J1 := Lib.hid I1
  have J2 := Lib.hid I2
  have GL := Lib.hid FL
  have GH := Lib.hid FH
  have GT := Lib.hid FT
  clear hm hp E1 E2 E3 E4 E5 E6 I1 I2 FL FH FT
  have SA := Slot2.new w (.int .i64 lo) (.int .i64 hi) 23
  have k0 := alloc_below w (.cells #[.int .i64 lo, .int .i64 hi] 23)
  go_enter Tryd.func8, Tryd.ntmps8
  go_wp2_with fail
  refine (sinOf_any lo hi _).mono ?_
  rw [F1.out]
  unfold pairV
  rintro e w1 ⟨rfl, hB1⟩
  simp only
  have SA1 := SA.next hB1
  have SS := Slot2.new w1 (.int .i64 s.1) (.int .i64 s.2) 23
  have k1 := below_alloc (below_next k0 hB1) (.cells #[.int .i64 s.1, .int .i64 s.2] 23)
  have SA := SA1.alloc (.cells #[.int .i64 s.1, .int .i64 s.2] 23)
  obtain ⟨lies, a0, a1, _, _⟩ := SA1
  clear hB1 k0
  go_wp2_with fail
  refine (cosOf_any lo hi _).mono ?_
  rw [F2.out]
  unfold pairV
  rintro e w2 ⟨rfl, hB2⟩
  simp only
  have SA2 := SA.next hB2
  have SS2 := SS.next hB2
  have SC := Slot2.new w2 (.int .i64 c.1) (.int .i64 c.2) 23
  have k2 := below_alloc (below_next k1 hB2) (.cells #[.int .i64 c.1, .int .i64 c.2] 23)
  have SA := SA2.alloc (.cells #[.int .i64 c.1, .int .i64 c.2] 23)
  have SS := SS2.alloc (.cells #[.int .i64 c.1, .int .i64 c.2] 23)
  clear lies a0 a1 hB2 k1
  obtain ⟨lies, a0, a1, _, _⟩ := SA2
  go_wp2_with fail
  refine (sin_any (lo + (hi - lo) * t / 255) _).mono ?_
  rw [F3.out]
  unfold pairV
  rintro e w3 ⟨rfl, hB3⟩
  simp only
  have SA := (SA.next hB3).alloc (.cells #[.int .i64 p.1, .int .i64 p.2] 23)
  have SS := (SS.next hB3).alloc (.cells #[.int .i64 p.1, .int .i64 p.2] 23)
  have SC := (SC.next hB3).alloc (.cells #[.int .i64 p.1, .int .i64 p.2] 23)
  have SP := Slot2.new w3 (.int .i64 p.1) (.int .i64 p.2) 23
  have k3 := below_alloc (below_next k2 hB3) (.cells #[.int .i64 p.1, .int .i64 p.2] 23)
  clear lies a0 a1 hB3 k2
  go_wp2_with fail
  refine (cos_any (lo + (hi - lo) * t / 255) _).mono ?_
  rw [F4.out]
  unfold pairV
  rintro e w4 ⟨rfl, hB4⟩
  simp only
  have SS4 := SS.next hB4
  have SC4 := SC.next hB4
  have SP4 := SP.next hB4
  have SA := (SA.next hB4).alloc (.cells #[.int .i64 q.1, .int .i64 q.2] 23)
  have SS := SS4.alloc (.cells #[.int .i64 q.1, .int .i64 q.2] 23)
  have SC := SC4.alloc (.cells #[.int .i64 q.1, .int .i64 q.2] 23)
  have SP := SP4.alloc (.cells #[.int .i64 q.1, .int .i64 q.2] 23)
  have SQ := Slot2.new w4 (.int .i64 q.1) (.int .i64 q.2) 23
  have k4 := below_alloc (below_next k3 hB4) (.cells #[.int .i64 q.1, .int .i64 q.2] 23)
  clear hB4 k3
  obtain ⟨lS, s0, s1, _, _⟩ := SS4
  obtain ⟨lC, c0, c1, _, _⟩ := SC4
  obtain ⟨lP, p0, p1, _, _⟩ := SP4
  go_wp2_with fail
  refine (inside_any p s _).mono ?_
  rw [J1.out]
  rintro e w5 ⟨rfl, hB5⟩
  have SA := SA.next hB5
  have SS := SS.next hB5
  have SC5 := SC.next hB5
  have SQ5 := SQ.next hB5
  have k5 := below_next k4 hB5
  clear hB5 k4 lS s0 s1 lC c0 c1 lP p0 p1
  obtain ⟨lC, c0, c1, _, _⟩ := SC5
  obtain ⟨lQ, q0, q1, _, _⟩ := SQ5
  go_wp2_with fail
  refine (inside_any q c _).mono ?_
  rw [J2.out]
  rintro e w6 ⟨rfl, hB6⟩
  have SA6 := SA.next hB6
  have SA := SA6
  have SS := SS.next hB6
  have k6 := below_next k5 hB6
  clear hB6 k5 lC c0 c1 lQ q0 q1
  obtain ⟨lies, a0, a1, _, _⟩ := SA6
  go_wp2_with fail
  refine (sin_any lo _).mono ?_
  rw [F5.out]
  unfold pairV
  rintro e w7 ⟨rfl, hB7⟩
  simp only
  have SA7 := SA.next hB7
  have SA := SA7.alloc (.cells #[.int .i64 l.1, .int .i64 l.2] 23)
  have SS := (SS.next hB7).alloc (.cells #[.int .i64 l.1, .int .i64 l.2] 23)
  have SL := Slot2.new w7 (.int .i64 l.1) (.int .i64 l.2) 23
  have k7 := below_alloc (below_next k6 hB7) (.cells #[.int .i64 l.1, .int .i64 l.2] 23)
  clear lies a0 a1 hB7 k6
  obtain ⟨lies, a0, a1, _, _⟩ := SA7
  go_wp2_with fail
  refine (sin_any hi _).mono ?_
  rw [F6.out]
  unfold pairV
  rintro e w8 ⟨rfl, hB8⟩
  simp only
  have SA8 := SA.next hB8
  have SS8 := SS.next hB8
  have SL8 := SL.next hB8
  have SA := SA8.alloc (.cells #[.int .i64 h.1, .int .i64 h.2] 23)
  have SS := SS8.alloc (.cells #[.int .i64 h.1, .int .i64 h.2] 23)
  have k8 := below_alloc (below_next k7 hB8) (.cells #[.int .i64 h.1, .int .i64 h.2] 23)
  clear lies a0 a1 hB8 k7
  obtain ⟨lA, a0, a1, _, _⟩ := SA8
  obtain ⟨lS, s0, s1, _, _⟩ := SS8
  obtain ⟨lL, l0, l1, _, _⟩ := SL8
  obtain ⟨_, ea0, ea1, _, _⟩ := SA
  obtain ⟨_, es0, es1, _, _⟩ := SS
  have HK := Lib.hid k8
  have lA' : w.heap.size < (w8.alloc (.cells #[.int .i64 h.1, .int .i64 h.2] 23)).heap.size := by simp; omega
  have lS' : w1.heap.size < (w8.alloc (.cells #[.int .i64 h.1, .int .i64 h.2] 23)).heap.size := by simp; omega
  clear k8
  have G1 := GL.out
  have G2 := GH.out
  clear GL GH
  go_upto_region 14 with (fail)
  go_cut [14] (fun v wx => v = .bool true ∧ wx = w8.alloc (.cells #[.int .i64 h.1, .int .i64 h.2] 23))
  case first =>
    rcases G1 with G1 | ⟨G1, G1'⟩ <;> rcases G2 with G2 | ⟨G2, G2'⟩
    all_goals
      go_wp2
      go_meet
      exact ⟨rfl, rfl⟩
  case rest =>
    obtain ⟨rfl, rfl⟩ := hcut
    clear a0 a1 s0 s1 l0 l1 lA lS lL G1 G2 F1 F2 F3 F4 F5 F6 J1 J2 pr0 pr1 av t0 t1
    generalize w8.alloc (.cells #[.int .i64 h.1, .int .i64 h.2] 23) = W at *
    have hw : IntKind.i64.wrap (hi - lo) = hi - lo := IntWalk.i64_in _ (by omega)
    have HW := Lib.hid hw
    clear hw
    have q1 : ∀ w : World, (binOp .eql 23 (.agg #[.int .i64 (-100000000), .int .i64 100000000]) (.agg #[.int .i64 (-100000000), .int .i64 100000000])).run Tryd.prog w = .ok (.bool true) w := fun _ => by kernel_rfl
    have Q1 := Lib.hid q1
    clear q1
    have G3 := GT.out
    clear GT
    rcases G3 with G3 | ⟨G3, G3'⟩
    · have nl : decide (hi - lo < 360000000) = true := decide_eq_true G3
      clear Q1 G3 es0 es1
      go_wp2_with fail
      have hw := HW.out
      go_region_with (first
        | (go_at_call 22; refine (awake_any _ (MarkTab.drew (HM.out.below HK.out)) (PowTab.drew (HP.out.below HK.out))).mono ?_; rintro e w9 ⟨rfl, hN⟩; have HB := Lib.hid (below_next HK.out (undrew hN))))
      all_goals
        clear hw
        go_wp2_with fail
        go_ret
        exact ⟨rfl, HB.out⟩
    · subst G3'
      simp only at es0 es1
      have nl : decide (hi - lo < 360000000) = false := decide_eq_false (by omega)
      clear G3
      go_wp2_with fail
      have hw := HW.out
      have q1 := Q1.out
      go_region_held3 (fun w' => w'.cell? ⟨w.heap.size, 0, none⟩ = some (.int .i64 lo) ∧ w'.cell? ⟨w.heap.size, 1, none⟩ = some (.int .i64 hi) ∧ w'.cell? ⟨w1.heap.size, 0, none⟩ = some (.int .i64 (-100000000)) ∧ w'.cell? ⟨w1.heap.size, 1, none⟩ = some (.int .i64 100000000))
        ((go_split_ands; (repeat' apply And.intro) <;> (first
          | assumption
          | exact keep_cell hN (by assumption) (by first | assumption | (simp; done) | (simp; omega) | (show _ < _; omega))
          | (go_keep; done))))
        (first
          | (go_at_call 46; refine (x_any _ _ _).mono ?_; rintro e wN ⟨rfl, hN⟩; have hzN : W.heap.size ≤ wN.heap.size := hN.size; have KN := Lib.hid (below_next HK.out (undrew hN)))
          | (go_at_call 22; refine (awake_any _ (HM.out.below KN.out) (HP.out.below KN.out)).mono ?_; rintro e w9 ⟨rfl, hN⟩; have hzM := hN.size; have HB := Lib.hid (below_next KN.out hN)))
      clear hw q1
      go_wp2_with fail
      go_ret
      exact ⟨rfl, HB.out⟩
end Go.Proofs.YtnjedigjabijcaaDoor
