import Derived.Test.YtnjedigjabijcaaDoorFrac
namespace Go.Proofs.YtnjedigjabijcaaDoor
open Go Go.RowKit

/-- What a quotient in whole numbers and its rest are, as far as it matters. -/
theorem quo_facts (n b k l : Int) (hb : 1 ≤ b) (e1 : k * b ≤ n) (e2 : n ≤ l * b) (k0 : -3000000000 ≤ k) (l0 : l ≤ 3000000000) :
    (-3000000001 ≤ n.tdiv b ∧ n.tdiv b ≤ 3000000001) ∧ (-b < n.tmod b ∧ n.tmod b < b) ∧ (n.tmod b < 0 → k ≤ n.tdiv b - 1 ∧ n.tdiv b - 1 ≤ l ∧ l ≠ n.tdiv b - 1) ∧ (¬ n.tmod b < 0 → k ≤ n.tdiv b ∧ n.tdiv b ≤ l ∧ (l = n.tdiv b → n.tmod b ≤ 0)) := by
  obtain ⟨t1, t2⟩ := trunc_in n b k l hb e1 e2
  have h3 := Int.lt_tmod_of_pos n (show 0 < b by omega)
  have h5 := Int.tmod_lt_of_pos n (show 0 < b by omega)
  refine ⟨?_, ⟨h3, h5⟩, fun h => ?_, t2⟩
  · by_cases c : n.tmod b < 0
    · have := t1 c; omega
    · have := t2 c; omega
  · obtain ⟨a1, a2, a3⟩ := t1 h
    exact ⟨a1, a2, fun e => by have := a3 e; omega⟩

set_option maxRecDepth 100000 in
set_option maxHeartbeats 8000000 in
theorem law_frac_yes (y z p q : Int × Int) (e f s t : Int) (E1' : timesE y z = (p, e)) (E2' : overE y z = (q, f))
    (y0 : -3000000000 ≤ y.1) (y1 : y.1 ≤ y.2) (y2 : y.2 ≤ 3000000000) (z0 : -3000000000 ≤ z.1) (z1 : z.1 ≤ z.2) (z2 : z.2 ≤ 3000000000)
    (s0 : 0 ≤ s) (s1 : s ≤ 255) (t0 : 0 ≤ t) (t1 : t ≤ 255)
    (u0 : 0 ≤ (y.2 - y.1) * s) (u1 : (y.2 - y.1) * s ≤ 2000000000000) (u2 : (y.2 - y.1) * s / 255 ≤ y.2 - y.1)
    (v0 : 0 ≤ (z.2 - z.1) * t) (v1 : (z.2 - z.1) * t ≤ 2000000000000) (v2 : (z.2 - z.1) * t / 255 ≤ z.2 - z.1)
    (a b : Int) (ha : y.1 + (y.2 - y.1) * s / 255 = a) (hb : z.1 + (z.2 - z.1) * t / 255 = b) (m0 : -9223372036854775807 ≤ a * b) (m1 : a * b ≤ 9223372036854775807)
    (g1 : (e = 0 ∧ p.1 * 100000000 ≤ a * b ∧ a * b ≤ p.2 * 100000000 ∧ -3000000000 ≤ p.1 ∧ p.1 ≤ p.2 ∧ p.2 ≤ 3000000000) ∨ e = 7)
    (g2 : (f = 0 ∧ (-3000000000 ≤ q.1 ∧ q.1 ≤ q.2 ∧ q.2 ≤ 3000000000) ∧ ((0 < z.1 ∧ 1 ≤ b ∧ q.1 * b ≤ a * 100000000 ∧ a * 100000000 ≤ q.2 * b) ∨ (z.2 < 0 ∧ b ≤ -1 ∧ q.1 * (-b) ≤ -(a * 100000000) ∧ -(a * 100000000) ≤ q.2 * (-b)))) ∨
      (f = 7 ∧ ¬ (z.1 ≤ 0 ∧ 0 ≤ z.2)) ∨ (f = 8 ∧ z.1 ≤ 0 ∧ 0 ≤ z.2))
    (w : World) (hm : MarkTab w) (hp : PowTab w) :
    Calls Tryd.prog 9 #[.agg #[.int .i64 y.1, .int .i64 y.2], .agg #[.int .i64 z.1, .int .i64 z.2], .agg #[.int .u8 s, .int .u8 t]] w fun e w' => e = .returned (.bool true) ∧ Below w.heap.size w w' := by
  have HM := Lib.hid hm
  have HP := Lib.hid hp
  have E1 := Lib.hid E1'
  have E2 := Lib.hid E2'
  have HA := Lib.hid ha
  have HB' := Lib.hid hb
  have M0 := Lib.hid m0
  have M1 := Lib.hid m1
  have G1 := Lib.hid g1
  have G2 := Lib.hid g2
  clear hm hp E1' E2' ha hb m0 m1 g1 g2
  have SY0 := ((Slot2.new w (.int .i64 y.1) (.int .i64 y.2) 23).alloc (.cells #[.int .i64 z.1, .int .i64 z.2] 23)).alloc (.cells #[.int .u8 s, .int .u8 t] 46)
  have SZ0 := (Slot2.new (w.alloc (.cells #[.int .i64 y.1, .int .i64 y.2] 23)) (.int .i64 z.1) (.int .i64 z.2) 23).alloc (.cells #[.int .u8 s, .int .u8 t] 46)
  have ST0 := Slot2.new ((w.alloc (.cells #[.int .i64 y.1, .int .i64 y.2] 23)).alloc (.cells #[.int .i64 z.1, .int .i64 z.2] 23)) (.int .u8 s) (.int .u8 t) 46
  have k0 := below_alloc (below_alloc (alloc_below w (.cells #[.int .i64 y.1, .int .i64 y.2] 23)) (.cells #[.int .i64 z.1, .int .i64 z.2] 23)) (.cells #[.int .u8 s, .int .u8 t] 46)
  simp only [World.size_alloc] at SZ0 ST0
  go_enter Tryd.func9, Tryd.ntmps9
  have SY00 := SY0
  have SZ00 := SZ0
  obtain ⟨_, a0, a1, _, _⟩ := SY00
  obtain ⟨_, b0, b1, _, _⟩ := SZ00
  go_wp2_with fail
  refine (times_any y z _).mono ?_
  rw [E1.out]
  unfold pairV
  rintro e w1 ⟨rfl, hB1⟩
  have SY1 := SY0.next hB1
  have SZ1 := SZ0.next hB1
  have ST1 := ST0.next hB1
  have k1 := below_next k0 hB1
  clear a0 a1 b0 b1 hB1 k0 SY0 SZ0 ST0
  have SY2 := SY1.alloc (.cells #[.int .i64 p.1, .int .i64 p.2] 23)
  have SZ2 := SZ1.alloc (.cells #[.int .i64 p.1, .int .i64 p.2] 23)
  have ST2 := ST1.alloc (.cells #[.int .i64 p.1, .int .i64 p.2] 23)
  have SP2 := Slot2.new w1 (.int .i64 p.1) (.int .i64 p.2) 23
  have k2 := below_alloc k1 (.cells #[.int .i64 p.1, .int .i64 p.2] 23)
  obtain ⟨_, a0, a1, _, _⟩ := SY1
  obtain ⟨_, b0, b1, _, _⟩ := SZ1
  clear k1 ST1
  simp only
  go_wp2_with fail
  refine (over_any y z _).mono ?_
  rw [E2.out]
  unfold pairV
  rintro e w2 ⟨rfl, hB2⟩
  have SY3 := SY2.next hB2
  have SZ3 := SZ2.next hB2
  have SY4 := SY3.alloc (.cells #[.int .i64 q.1, .int .i64 q.2] 23)
  have SZ4 := SZ3.alloc (.cells #[.int .i64 q.1, .int .i64 q.2] 23)
  have ST4 := (ST2.next hB2).alloc (.cells #[.int .i64 q.1, .int .i64 q.2] 23)
  have SP4 := (SP2.next hB2).alloc (.cells #[.int .i64 q.1, .int .i64 q.2] 23)
  have SQ4 := Slot2.new w2 (.int .i64 q.1) (.int .i64 q.2) 23
  have k3 := below_alloc (below_next k2 hB2) (.cells #[.int .i64 q.1, .int .i64 q.2] 23)
  clear a0 a1 b0 b1 hB2 k2 SY2 SZ2 ST2 SP2
  obtain ⟨_, a0, a1, _, _⟩ := SY3
  obtain ⟨_, b0, b1, _, _⟩ := SZ3
  have HK := Lib.hid k3
  have HY := Lib.hid SY4
  have HZ := Lib.hid SZ4
  have HT := Lib.hid ST4
  have HPp := Lib.hid SP4
  have HQ := Lib.hid SQ4
  clear k3 SY4 SZ4 ST4 SP4 SQ4
  simp only
  have U0 := Lib.hid u0
  have U1 := Lib.hid u1
  have U2 := Lib.hid u2
  have V0 := Lib.hid v0
  have V1 := Lib.hid v1
  have V2 := Lib.hid v2
  clear u0 u1 u2 v0 v1 v2
  have c1 : ¬ y.2 < y.1 := by omega
  have c2 : ¬ z.2 < z.1 := by omega
  have c3 : ¬ y.1 < -3000000000 := by omega
  have c4 : ¬ 3000000000 < y.2 := by omega
  have c5 : ¬ z.1 < -3000000000 := by omega
  have c6 : ¬ 3000000000 < z.2 := by omega
  go_upto_region 5 with (fail)
  clear a0 a1 b0 b1 c1 c2 c3 c4 c5 c6
  generalize w2.alloc (.cells #[.int .i64 q.1, .int .i64 q.2] 23) = W at *
  go_cut [11, 12] (fun u v wx => u = .int .i64 (y.1 + (y.2 - y.1) * s / 255) ∧ v = .int .i64 (z.1 + (z.2 - z.1) * t / 255) ∧ ∃ n, wx = W.drewN n)
  case first =>
    obtain ⟨_, a0, a1, _, _⟩ := HY.out
    obtain ⟨_, b0, b1, _, _⟩ := HZ.out
    obtain ⟨_, g0, g1, _, _⟩ := HT.out
    have u0 := U0.out
    have u1 := U1.out
    have u2 := U2.out
    have v0 := V0.out
    have v1 := V1.out
    have v2 := V2.out
    go_quiet (fail)
    go_wp2
    go_meet
    exact ⟨rfl, rfl, _, rfl⟩
  case rest =>
    obtain ⟨rfl, rfl, n, rfl⟩ := hcut
    rw [HA.out, HB'.out]
    have ka : -3000000000 ≤ a ∧ a ≤ 3000000000 := by
      have := HA.out
      have := U0.out
      have := U2.out
      generalize (y.2 - y.1) * s = m at *
      omega
    have kb : -3000000000 ≤ b ∧ b ≤ 3000000000 := by
      have := HB'.out
      have := V0.out
      have := V2.out
      generalize (z.2 - z.1) * t = m at *
      omega
    obtain ⟨ka0, ka1⟩ := ka
    obtain ⟨kb0, kb1⟩ := kb
    have KX : Hid (Below w.heap.size w (W.drewN n)) := by
      have h := HK.out
      exact Lib.hid ⟨h.os, h.tape, h.output, h.size, h.block⟩
    have SZ : Slot2 (W.drewN n) (w.heap.size + 1) (.int .i64 z.1) (.int .i64 z.2) := by
      have h := HZ.out
      exact ⟨h.lies, h.cell0, h.cell1, h.free0, h.free1⟩
    have SP : Slot2 (W.drewN n) w1.heap.size (.int .i64 p.1) (.int .i64 p.2) := by
      have h := HPp.out
      exact ⟨h.lies, h.cell0, h.cell1, h.free0, h.free1⟩
    have SQ : Slot2 (W.drewN n) w2.heap.size (.int .i64 q.1) (.int .i64 q.2) := by
      have h := HQ.out
      exact ⟨h.lies, h.cell0, h.cell1, h.free0, h.free1⟩
    generalize W.drewN n = X at *
    clear HA HB' U0 U1 U2 V0 V1 V2 HK HZ HPp HQ HY HT E1 E2 s0 s1 t0 t1 y0 y1 y2
    obtain ⟨_, z0', z1', _, _⟩ := SZ
    obtain ⟨_, p0', p1', _, _⟩ := SP
    obtain ⟨_, q0', q1', _, _⟩ := SQ
    go_upto_region 6 with (fail)
    go_cut [114] (fun v wx => v = .bool false ∧ wx = X)
    case first =>
      have g1 := G1.out
      have m0 := M0.out
      have m1 := M1.out
      rcases g1 with ⟨rfl, c1, c2, c3, c4, c5⟩ | rfl
      · have d1 : ¬ a * b < p.1 * 100000000 := by omega
        have d2 : ¬ p.2 * 100000000 < a * b := by omega
        go_wp2
        go_meet
        exact ⟨rfl, rfl⟩
      · go_wp2
        go_meet
        exact ⟨rfl, rfl⟩
    case rest =>
      obtain ⟨rfl, rfl⟩ := hcut
      clear p0' p1' M0 M1 G1
      have g2 := G2.out
      clear G2
      rcases g2 with ⟨rfl, ⟨b1, b2, b3⟩, (⟨c1, c2, c3, c4⟩ | ⟨c1, c2, c3, c4⟩)⟩ | ⟨rfl, h⟩ | ⟨rfl, h, h'⟩
      · have QF := Lib.hid (quo_facts (a * 100000000) (b) q.1 q.2 c2 c3 c4 b1 b3)
        have hnb : -300000000000000000 ≤ a * 100000000 ∧ a * 100000000 ≤ 300000000000000000 := by omega
        obtain ⟨hn0, hn1⟩ := hnb
        have b1' := Lib.hid b1
        have b3' := Lib.hid b3
        have b2' := Lib.hid b2
        have Q0 := Lib.hid q0'
        have Q1 := Lib.hid q1'
        have Z0 := Lib.hid z0'
        have Z1 := Lib.hid z1'
        clear c3 c4 b1 b2 b3 q0' q1' z0' z1'
        go_upto_region 12 with (fail)
        clear hn0 hn1
        generalize a * 100000000 = n at *
        have hd1 : 1 ≤ b := c2
        have hd2 : b ≤ 3000000000 := kb1
        clear c2 kb0 kb1
        generalize b = d at *
        clear ka0 ka1
        have WQ : Hid (wrap64 (n.tdiv d) = n.tdiv d) := Lib.hid (IntWalk.wrap64_in _ (by have := QF.out.1; omega))
        go_quiet (fail)
        simp only [WQ.out]
        clear WQ
        generalize n.tdiv d = W at *
        generalize n.tmod d = R at *
        have q0' := Q0.out
        have q1' := Q1.out
        have z0' := Z0.out
        have z1' := Z1.out
        clear Q0 Q1 Z0 Z1 b1' b2' b3'
        obtain ⟨⟨w0, w1'⟩, ⟨r0, r1⟩, g1, g2⟩ := QF.out
        clear QF
        by_cases hR : R < 0
        · obtain ⟨k1, k2, k3⟩ := g1 hR
          have k3' : (q.2 == W - 1) = false := by simp; omega
          have k1' : ¬ W - 1 < q.1 := by omega
          have k2' : ¬ q.2 < W - 1 := by omega
          clear g1 g2 k3 k1 k2
          go_wp2_with fail
          refine (awake_any _ (HM.out.below (below_drewN KX.out _)) (HP.out.below (below_drewN KX.out _))).mono ?_
          rintro e9 w9 ⟨rfl, hB9⟩
          have HF := Lib.hid (below_next (below_drewN KX.out _) hB9)
          clear hB9
          go_wp2_with fail
          go_ret
          exact ⟨rfl, HF.out⟩
        · obtain ⟨k1, k2, k3⟩ := g2 hR
          have k1' : ¬ W < q.1 := by omega
          have k2' : ¬ q.2 < W := by omega
          clear g1 g2 k1 k2
          by_cases hE : q.2 = W
          · have k3' : (q.2 == W) = true := by simp; omega
            have k4' : ¬ 0 < R := by have := k3 hE; omega
            clear hE k3
            go_wp2_with fail
            refine (awake_any _ (HM.out.below (below_drewN KX.out _)) (HP.out.below (below_drewN KX.out _))).mono ?_
            rintro e9 w9 ⟨rfl, hB9⟩
            have HF := Lib.hid (below_next (below_drewN KX.out _) hB9)
            clear hB9
            go_wp2_with fail
            go_ret
            exact ⟨rfl, HF.out⟩
          · have k3' : (q.2 == W) = false := by simp; omega
            clear hE k3
            go_wp2_with fail
            refine (awake_any _ (HM.out.below (below_drewN KX.out _)) (HP.out.below (below_drewN KX.out _))).mono ?_
            rintro e9 w9 ⟨rfl, hB9⟩
            have HF := Lib.hid (below_next (below_drewN KX.out _) hB9)
            clear hB9
            go_wp2_with fail
            go_ret
            exact ⟨rfl, HF.out⟩
      · have QF := Lib.hid (quo_facts (-(a * 100000000)) (-b) q.1 q.2 (show 1 ≤ -b by omega) c3 c4 b1 b3)
        have hnb : -300000000000000000 ≤ a * 100000000 ∧ a * 100000000 ≤ 300000000000000000 := by omega
        obtain ⟨hn0, hn1⟩ := hnb
        have b1' := Lib.hid b1
        have b3' := Lib.hid b3
        have b2' := Lib.hid b2
        have Q0 := Lib.hid q0'
        have Q1 := Lib.hid q1'
        have Z0 := Lib.hid z0'
        have Z1 := Lib.hid z1'
        have c1' : z.1 ≤ 0 := by omega
        have c1'' : ¬ 0 ≤ z.2 := by omega
        clear c3 c4 b1 b2 b3 q0' q1' z0' z1'
        go_upto_region 12 with (fail)
        clear hn0 hn1
        generalize -(a * 100000000) = n at *
        have hd1 : 1 ≤ -b := by omega
        have hd2 : -b ≤ 3000000000 := by omega
        clear c2 kb0 kb1
        generalize -b = d at *
        clear ka0 ka1
        have WQ : Hid (wrap64 (n.tdiv d) = n.tdiv d) := Lib.hid (IntWalk.wrap64_in _ (by have := QF.out.1; omega))
        go_quiet (fail)
        simp only [WQ.out]
        clear WQ
        generalize n.tdiv d = W at *
        generalize n.tmod d = R at *
        have q0' := Q0.out
        have q1' := Q1.out
        have z0' := Z0.out
        have z1' := Z1.out
        clear Q0 Q1 Z0 Z1 b1' b2' b3'
        obtain ⟨⟨w0, w1'⟩, ⟨r0, r1⟩, g1, g2⟩ := QF.out
        clear QF
        by_cases hR : R < 0
        · obtain ⟨k1, k2, k3⟩ := g1 hR
          have k3' : (q.2 == W - 1) = false := by simp; omega
          have k1' : ¬ W - 1 < q.1 := by omega
          have k2' : ¬ q.2 < W - 1 := by omega
          clear g1 g2 k3 k1 k2
          go_wp2_with fail
          refine (awake_any _ (HM.out.below (below_drewN KX.out _)) (HP.out.below (below_drewN KX.out _))).mono ?_
          rintro e9 w9 ⟨rfl, hB9⟩
          have HF := Lib.hid (below_next (below_drewN KX.out _) hB9)
          clear hB9
          go_wp2_with fail
          go_ret
          exact ⟨rfl, HF.out⟩
        · obtain ⟨k1, k2, k3⟩ := g2 hR
          have k1' : ¬ W < q.1 := by omega
          have k2' : ¬ q.2 < W := by omega
          clear g1 g2 k1 k2
          by_cases hE : q.2 = W
          · have k3' : (q.2 == W) = true := by simp; omega
            have k4' : ¬ 0 < R := by have := k3 hE; omega
            clear hE k3
            go_wp2_with fail
            refine (awake_any _ (HM.out.below (below_drewN KX.out _)) (HP.out.below (below_drewN KX.out _))).mono ?_
            rintro e9 w9 ⟨rfl, hB9⟩
            have HF := Lib.hid (below_next (below_drewN KX.out _) hB9)
            clear hB9
            go_wp2_with fail
            go_ret
            exact ⟨rfl, HF.out⟩
          · have k3' : (q.2 == W) = false := by simp; omega
            clear hE k3
            go_wp2_with fail
            refine (awake_any _ (HM.out.below (below_drewN KX.out _)) (HP.out.below (below_drewN KX.out _))).mono ?_
            rintro e9 w9 ⟨rfl, hB9⟩
            have HF := Lib.hid (below_next (below_drewN KX.out _) hB9)
            clear hB9
            go_wp2_with fail
            go_ret
            exact ⟨rfl, HF.out⟩
      · by_cases c1 : z.1 ≤ 0
        · have c2 : ¬ 0 ≤ z.2 := fun h2 => h ⟨c1, h2⟩
          clear h
          go_wp2_with fail
          refine (awake_any _ (HM.out.below KX.out) (HP.out.below KX.out)).mono ?_
          rintro e9 w9 ⟨rfl, hB9⟩
          have HF := Lib.hid (below_next KX.out hB9)
          clear hB9
          go_wp2_with fail
          go_ret
          exact ⟨rfl, HF.out⟩
        · clear h
          go_wp2_with fail
          refine (awake_any _ (HM.out.below KX.out) (HP.out.below KX.out)).mono ?_
          rintro e9 w9 ⟨rfl, hB9⟩
          have HF := Lib.hid (below_next KX.out hB9)
          clear hB9
          go_wp2_with fail
          go_ret
          exact ⟨rfl, HF.out⟩
      · go_wp2_with fail
        refine (awake_any _ (HM.out.below KX.out) (HP.out.below KX.out)).mono ?_
        rintro e9 w9 ⟨rfl, hB9⟩
        have HF := Lib.hid (below_next KX.out hB9)
        clear hB9
        go_wp2_with fail
        go_ret
        exact ⟨rfl, HF.out⟩
end Go.Proofs.YtnjedigjabijcaaDoor
