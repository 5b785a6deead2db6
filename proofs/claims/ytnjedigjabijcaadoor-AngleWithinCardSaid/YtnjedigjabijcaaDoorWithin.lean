import Derived.Test.YtnjedigjabijcaaDoorWithTab
import Derived.Test.YtnjedigjabijcaaDoorEnclLaw
namespace Go.Proofs.YtnjedigjabijcaaDoor
open Go Go.RowKit

set_option maxRecDepth 100000 in
set_option maxHeartbeats 4000000 in
theorem law_within_no (y z : Int × Int) (s t : Int) (D' : y.2 < y.1 ∨ (¬ y.2 < y.1 ∧ y.1 < -3600000000) ∨ (¬ y.2 < y.1 ∧ ¬ y.1 < -3600000000 ∧ 3600000000 < y.2)) (w : World) (hm : MarkTab w) (hp : PowTab w) :
    Calls Tryd.prog 12 #[.agg #[.int .i64 y.1, .int .i64 y.2], .agg #[.int .i64 z.1, .int .i64 z.2], .agg #[.int .u8 s, .int .u8 t]] w fun e w' => e = .returned (.bool true) ∧ Below w.heap.size w w' := by
  have HM := Lib.hid hm
  have HP := Lib.hid hp
  have DD := Lib.hid D'
  clear hm hp D'
  have SY := ((Slot2.new w (.int .i64 y.1) (.int .i64 y.2) 23).alloc (.cells #[.int .i64 z.1, .int .i64 z.2] 23)).alloc (.cells #[.int .u8 s, .int .u8 t] 46)
  have HK := Lib.hid (below_alloc (below_alloc (alloc_below w (.cells #[.int .i64 y.1, .int .i64 y.2] 23)) (.cells #[.int .i64 z.1, .int .i64 z.2] 23)) (.cells #[.int .u8 s, .int .u8 t] 46))
  have HY := Lib.hid SY
  clear SY
  go_enter Tryd.func12, Tryd.ntmps12
  go_wp2_with fail
  go_quiet (fail)
  obtain ⟨_, a0, a1, _, _⟩ := HY.out
  have D := DD.out
  clear DD
  rcases D with c1 | ⟨c1, c2⟩ | ⟨c1, c2, c3⟩
  all_goals
    go_wp2_with fail
    refine (awake_any _ (HM.out.below (below_drewN HK.out _)) (HP.out.below (below_drewN HK.out _))).mono ?_
    rintro e w3 ⟨rfl, hB3⟩
    have HB := Lib.hid (below_next (below_drewN HK.out _) hB3)
    clear hB3
    go_wp2_with fail
    go_ret
    exact ⟨rfl, HB.out⟩

theorem Slot2.drewn {V : World} {b : Nat} {x y : Value} (h : Slot2 V b x y) (n : Nat) : Slot2 (V.drewN n) b x y := ⟨h.lies, h.cell0, h.cell1, h.free0, h.free1⟩
theorem with_start {w V w1 : World} {y z s : Int × Int} (k : Below w.heap.size w V) (sy : Slot2 V w.heap.size (.int .i64 y.1) (.int .i64 y.2)) (sz : Slot2 V (w.heap.size + 1) (.int .i64 z.1) (.int .i64 z.2)) (hB : Below V.heap.size V w1) (T : TypeId) :
    WithSt w ((w1.alloc (.cells #[.int .i64 s.1, .int .i64 s.2] 23)).alloc (.cells #[.func (.func 18) #[] #[], .func (.func 20) #[] #[], .func (.func 23) #[] #[], .func (.func 25) #[] #[], .func (.func 27) #[] #[]] T)) y z s w1.heap.size (w1.heap.size + 1) onesL := by
  have f := Fns.five (w1.alloc (.cells #[.int .i64 s.1, .int .i64 s.2] 23)) T
  simp only [World.size_alloc] at f
  exact ⟨below_alloc (below_alloc (below_next k hB) _) _, ((sy.next hB).alloc _).alloc _, ((sz.next hB).alloc _).alloc _, (Slot2.new w1 _ _ 23).alloc _, f⟩

theorem with_second {w wr : World} {y z s : Int × Int} {bs bf : Nat} {l : List Nat} (h : WithSt w wr y z s bs bf l) (T : TypeId) : WithSt w (wr.alloc (.cells #[.func (.func 29) #[] #[], .func (.func 31) #[] #[], .func (.func 33) #[] #[], .func (.func 35) #[] #[]] T)) y z s bs wr.heap.size twosL :=
  ⟨below_alloc h.below _, h.sy.alloc _, h.sz.alloc _, h.ss.alloc _, Fns.four wr T⟩

set_option maxRecDepth 100000 in
set_option maxHeartbeats 8000000 in
theorem law_within_yes (y z : Int × Int) (s t : Int) (s0 : 0 ≤ s) (s1 : s ≤ 255) (t0 : 0 ≤ t) (t1 : t ≤ 255) (i1 : -3600000000 ≤ y.1) (i2 : y.1 ≤ y.2) (i3 : y.2 ≤ 3600000000)
    (hz : (-9223372036854775808 ≤ z.1 ∧ z.1 ≤ 9223372036854775807) ∧ (-9223372036854775808 ≤ z.2 ∧ z.2 ≤ 9223372036854775807)) (w : World) (hm : MarkTab w) (hp : PowTab w) :
    Calls Tryd.prog 12 #[.agg #[.int .i64 y.1, .int .i64 y.2], .agg #[.int .i64 z.1, .int .i64 z.2], .agg #[.int .u8 s, .int .u8 t]] w fun e w' => e = .returned (.bool true) ∧ Below w.heap.size w w' := by
  have HM := Lib.hid hm
  have HP := Lib.hid hp
  have HZ := Lib.hid hz
  clear hm hp hz
  have SY := ((Slot2.new w (.int .i64 y.1) (.int .i64 y.2) 23).alloc (.cells #[.int .i64 z.1, .int .i64 z.2] 23)).alloc (.cells #[.int .u8 s, .int .u8 t] 46)
  have SZ := (Slot2.new (w.alloc (.cells #[.int .i64 y.1, .int .i64 y.2] 23)) (.int .i64 z.1) (.int .i64 z.2) 23).alloc (.cells #[.int .u8 s, .int .u8 t] 46)
  have HK := Lib.hid (below_alloc (below_alloc (alloc_below w (.cells #[.int .i64 y.1, .int .i64 y.2] 23)) (.cells #[.int .i64 z.1, .int .i64 z.2] 23)) (.cells #[.int .u8 s, .int .u8 t] 46))
  simp only [World.size_alloc] at SZ
  have HY := Lib.hid SY
  have HZs := Lib.hid SZ
  clear SY SZ
  go_enter Tryd.func12, Tryd.ntmps12
  go_wp2_with fail
  go_quiet (fail)
  obtain ⟨_, a0, a1, _, _⟩ := HY.out
  have hmn : 0 ≤ min s t ∧ min s t ≤ max s t ∧ max s t ≤ 255 := by omega
  generalize min s t = u at *
  generalize max s t = v at *
  obtain ⟨u0, u1, u2⟩ := hmn
  obtain ⟨p1, p2, p3, p4⟩ := part_bd (y.2 - y.1) u (by omega) u0 (by omega)
  obtain ⟨q1, q2, q3, q4⟩ := part_bd (y.2 - y.1) v (by omega) (by omega) u2
  have pm : (y.2 - y.1) * u ≤ (y.2 - y.1) * v := Int.mul_le_mul_of_nonneg_left u1 (by omega)
  have pd : (y.2 - y.1) * u / 255 ≤ (y.2 - y.1) * v / 255 := Int.ediv_le_ediv (by omega) pm
  have p5 : (y.2 - y.1) * u ≤ 2000000000000 := by omega
  have q5 : (y.2 - y.1) * v ≤ 2000000000000 := by omega
  have v0 : 0 ≤ v := by omega
  have v1 : u ≤ 255 := by omega
  have PD := Lib.hid pd
  clear p2 q2 pm pd s0 s1 t0 t1
  have c1 : ¬ y.2 < y.1 := by omega
  have c2 : ¬ y.1 < -3600000000 := by omega
  have c3 : ¬ 3600000000 < y.2 := by omega
  go_wp2_with fail
  refine (x_any _ _ _).mono ?_
  rintro e w1 ⟨rfl, hB1⟩
  have hs : y.1 ≤ y.1 + (y.2 - y.1) * u / 255 ∧ y.1 + (y.2 - y.1) * u / 255 ≤ y.1 + (y.2 - y.1) * v / 255 ∧ y.1 + (y.2 - y.1) * v / 255 ≤ y.2 := by have := PD.out; omega
  clear PD p1 p3 p4 p5 q1 q3 q4 q5 u0 u1 u2 v0 v1 c1 c2 c3
  generalize y.1 + (y.2 - y.1) * u / 255 = a at *
  generalize y.1 + (y.2 - y.1) * v / 255 = b at *
  have hB1' := hB1
  have W0 := Lib.hid (fun T => with_start (s := (a, b)) (below_drewN HK.out _) (HY.out.drewn _) (HZs.out.drewn _) hB1 T)
  have hl : w.heap.size + 1 < w1.heap.size := by have := hB1.size; simp at this; omega
  have S := Lib.hid hs
  have BD : Hid ((-9223372036854775808 ≤ a ∧ a ≤ 9223372036854775807) ∧ (-9223372036854775808 ≤ b ∧ b ≤ 9223372036854775807) ∧ (-9223372036854775808 ≤ y.1 ∧ y.1 ≤ 9223372036854775807) ∧ (-9223372036854775808 ≤ y.2 ∧ y.2 ≤ 9223372036854775807)) := Lib.hid (by omega)
  clear a0 a1 hB1 hB1' HK HY HZs hs i1 i2 i3
  go_wp2_with fail
  go_loopw [11] (fun i wr => OneRel w y z (a, b) w1.heap.size (w1.heap.size + 1) i wr) (fun i _ => 5 - (intOf i).toNat)
  case atStart => exact ⟨0, by omega, rfl, W0.out _⟩
  case round =>
    clear W0
    obtain ⟨k, hk, rfl, St⟩ := hrel
    by_cases hlt : k < 5
    · obtain ⟨f, E, hf, eg, hC, hM⟩ := ones_tab k hlt
      have hmono := hM y (a, b) S.out.1 S.out.2.1 S.out.2.2
      have C1 := Lib.hid (hC (a, b))
      have C2 := Lib.hid (hC y)
      clear hC hM
      generalize E (a, b) = P at *
      generalize E y = Q at *
      have cf := St.fns.2 k f hf
      have hk64 : (k : Int) < 5 := by omega
      obtain ⟨_, a0, a1, _, _⟩ := St.ss
      have hbf : w1.heap.size + 1 < wr.heap.size := St.fns.1
      have cfa := fun o => keep_cell (alloc_below wr o) cf hbf
      have a0a := fun o => keep_cell (alloc_below wr o) a0 (by show w1.heap.size < _; omega)
      have a1a := fun o => keep_cell (alloc_below wr o) a1 (by show w1.heap.size < _; omega)
      have St1 := Lib.hid St
      have Hmono := Lib.hid hmono
      clear St hmono
      go_upto_region 9 with (fail)
      go_cut [12, 13] (fun u v wx => PutAt w wr wx y z (a, b) w1.heap.size (w1.heap.size + 1) onesL P u v)
      case first =>
        go_region_held3 (fun w' => w'.cell? ⟨w1.heap.size + 1, k, none⟩ = some (.func (.func f) #[] #[]) ∧ w'.cell? ⟨w1.heap.size, 0, none⟩ = some (.int .i64 a) ∧ w'.cell? ⟨w1.heap.size, 1, none⟩ = some (.int .i64 b))
          ((go_split_ands; (repeat' apply And.intro) <;> (first
            | assumption
            | exact keep_cell hN (by assumption) (by first | assumption | (dsimp only; omega))
            | exact keep_cell (alloc_below _ _) (by assumption) (by first | assumption | (dsimp only; omega))
            | ((repeat (rw [World.cell?_setCell_other (h := by first | (simp; done) | (simp; omega))])); assumption)
            | exact kc0 _
            | exact kc1 _
            | exact kc2 _
            | exact kd0
            | exact ke0 _
            | exact kf0 _ _
            | exact kd1
            | exact ke1 _
            | exact kf1 _ _
            | exact kd2
            | exact ke2 _
            | exact kf2 _ _
            | (go_keep; done))))
          (first
            | (go_at_fn f; refine (C1.out _).mono ?_; unfold pairV; rintro e w2 ⟨rfl, hN⟩; first
                | (have hA : Below wr.heap.size wr w2 := (by first | exact hN | exact undrew hN)
                   have hzz : wr.heap.size ≤ w2.heap.size := hA.size
                   have kc0 := fun o => keep_cell (alloc_below w2 o) (keep_cell hA cf (by dsimp only; omega)) (by dsimp only; omega)
                   have kc1 := fun o => keep_cell (alloc_below w2 o) (keep_cell hA a0 (by dsimp only; omega)) (by dsimp only; omega)
                   have kc2 := fun o => keep_cell (alloc_below w2 o) (keep_cell hA a1 (by dsimp only; omega)) (by dsimp only; omega))
                | (have hZ : Below (wr.alloc (.cells #[.int .i64 0, .int .i64 0] 23)).heap.size (wr.alloc (.cells #[.int .i64 0, .int .i64 0] 23)) w2 := (by first | exact hN | exact undrew hN)
                   obtain ⟨_, z0, z1, zf0, zf1⟩ := (Slot2.new wr (.int .i64 0) (.int .i64 0) 23).next hZ
                   have hzz : wr.heap.size + 1 ≤ w2.heap.size := (by have := hZ.size; simpa using this)
                   have kd0 := keep_cell hZ (cfa _) (by simp; omega)
                   have ke0 := fun v => (World.cell?_setCell_other (w := w2) (a := ⟨wr.heap.size, 0, none⟩) (v := v) (h := by first | (simp; done) | (simp; omega))).trans kd0
                   have kf0 := fun v u => (World.cell?_setCell_other (w := w2.setCell ⟨wr.heap.size, 0, none⟩ v) (a := ⟨wr.heap.size, 1, none⟩) (v := u) (h := by first | (simp; done) | (simp; omega))).trans (ke0 v)
                   have kd1 := keep_cell hZ (a0a _) (by simp; omega)
                   have ke1 := fun v => (World.cell?_setCell_other (w := w2) (a := ⟨wr.heap.size, 0, none⟩) (v := v) (h := by first | (simp; done) | (simp; omega))).trans kd1
                   have kf1 := fun v u => (World.cell?_setCell_other (w := w2.setCell ⟨wr.heap.size, 0, none⟩ v) (a := ⟨wr.heap.size, 1, none⟩) (v := u) (h := by first | (simp; done) | (simp; omega))).trans (ke1 v)
                   have kd2 := keep_cell hZ (a1a _) (by simp; omega)
                   have ke2 := fun v => (World.cell?_setCell_other (w := w2) (a := ⟨wr.heap.size, 0, none⟩) (v := v) (h := by first | (simp; done) | (simp; omega))).trans kd2
                   have kf2 := fun v u => (World.cell?_setCell_other (w := w2.setCell ⟨wr.heap.size, 0, none⟩ v) (a := ⟨wr.heap.size, 1, none⟩) (v := u) (h := by first | (simp; done) | (simp; omega))).trans (ke2 v))))
        all_goals (go_wp2_with fail; go_meet)
        all_goals first
          | exact put_a St1.out P hA _
          | exact put_b St1.out P _ hZ
      case rest =>
        obtain ⟨c1, rfl, rfl, hc1, St2, SP, hkeep⟩ := hcut
        clear hbf cfa a0a a1a cf a0 a1 St1 hkeep C1
        have cf := St2.fns.2 k f hf
        have hbf : w1.heap.size + 1 < wc.heap.size := St2.fns.1
        obtain ⟨hyl, b0, b1, _, _⟩ := St2.sy
        have cfa := fun o => keep_cell (alloc_below wc o) cf hbf
        have b0a := fun o => keep_cell (alloc_below wc o) b0 hyl
        have b1a := fun o => keep_cell (alloc_below wc o) b1 hyl
        have St2' := Lib.hid St2
        have SP' := Lib.hid SP
        have hc1' := Lib.hid hc1
        clear St2 SP hc1
        go_upto_region 10 with (fail)
        go_cut [14, 15] (fun u v wx => PutAt w wc wx y z (a, b) w1.heap.size (w1.heap.size + 1) onesL Q u v)
        case first =>
          go_region_held3 (fun w' => w'.cell? ⟨w1.heap.size + 1, k, none⟩ = some (.func (.func f) #[] #[]) ∧ w'.cell? ⟨w.heap.size, 0, none⟩ = some (.int .i64 y.1) ∧ w'.cell? ⟨w.heap.size, 1, none⟩ = some (.int .i64 y.2))
            ((go_split_ands; (repeat' apply And.intro) <;> (first
              | assumption
              | exact keep_cell hN (by assumption) (by first | assumption | (dsimp only; omega))
              | exact keep_cell (alloc_below _ _) (by assumption) (by first | assumption | (dsimp only; omega))
              | ((repeat (rw [World.cell?_setCell_other (h := by first | (simp; done) | (simp; omega))])); assumption)
              | exact kc0 _
              | exact kc1 _
              | exact kc2 _
              | exact kd0
              | exact ke0 _
              | exact kf0 _ _
              | exact kd1
              | exact ke1 _
              | exact kf1 _ _
              | exact kd2
              | exact ke2 _
              | exact kf2 _ _
              | (go_keep; done))))
            (first
              | (go_at_fn f; refine (C2.out _).mono ?_; unfold pairV; rintro e w2 ⟨rfl, hN⟩; first
                  | (have hA : Below wc.heap.size wc w2 := (by first | exact hN | exact undrew hN)
                     have hzz : wc.heap.size ≤ w2.heap.size := hA.size
                     have kc0 := fun o => keep_cell (alloc_below w2 o) (keep_cell hA cf (by dsimp only; omega)) (by dsimp only; omega)
                     have kc1 := fun o => keep_cell (alloc_below w2 o) (keep_cell hA b0 (by dsimp only; omega)) (by dsimp only; omega)
                     have kc2 := fun o => keep_cell (alloc_below w2 o) (keep_cell hA b1 (by dsimp only; omega)) (by dsimp only; omega))
                  | (have hZ : Below (wc.alloc (.cells #[.int .i64 0, .int .i64 0] 23)).heap.size (wc.alloc (.cells #[.int .i64 0, .int .i64 0] 23)) w2 := (by first | exact hN | exact undrew hN)
                     obtain ⟨_, z0, z1, zf0, zf1⟩ := (Slot2.new wc (.int .i64 0) (.int .i64 0) 23).next hZ
                     have hzz : wc.heap.size + 1 ≤ w2.heap.size := (by have := hZ.size; simpa using this)
                     have kd0 := keep_cell hZ (cfa _) (by simp; omega)
                     have ke0 := fun v => (World.cell?_setCell_other (w := w2) (a := ⟨wc.heap.size, 0, none⟩) (v := v) (h := by first | (simp; done) | (simp; omega))).trans kd0
                     have kf0 := fun v u => (World.cell?_setCell_other (w := w2.setCell ⟨wc.heap.size, 0, none⟩ v) (a := ⟨wc.heap.size, 1, none⟩) (v := u) (h := by first | (simp; done) | (simp; omega))).trans (ke0 v)
                     have kd1 := keep_cell hZ (b0a _) (by simp; omega)
                     have ke1 := fun v => (World.cell?_setCell_other (w := w2) (a := ⟨wc.heap.size, 0, none⟩) (v := v) (h := by first | (simp; done) | (simp; omega))).trans kd1
                     have kf1 := fun v u => (World.cell?_setCell_other (w := w2.setCell ⟨wc.heap.size, 0, none⟩ v) (a := ⟨wc.heap.size, 1, none⟩) (v := u) (h := by first | (simp; done) | (simp; omega))).trans (ke1 v)
                     have kd2 := keep_cell hZ (b1a _) (by simp; omega)
                     have ke2 := fun v => (World.cell?_setCell_other (w := w2) (a := ⟨wc.heap.size, 0, none⟩) (v := v) (h := by first | (simp; done) | (simp; omega))).trans kd2
                     have kf2 := fun v u => (World.cell?_setCell_other (w := w2.setCell ⟨wc.heap.size, 0, none⟩ v) (a := ⟨wc.heap.size, 1, none⟩) (v := u) (h := by first | (simp; done) | (simp; omega))).trans (ke2 v))))
          all_goals (go_wp2_with fail; go_meet)
          all_goals first
            | exact put_a St2'.out Q hA _
            | exact put_b St2'.out Q _ hZ
        case rest =>
          obtain ⟨c2, rfl, rfl, hc2, St3, SQ, hkeep⟩ := hcut
          clear hbf cfa b0a b1a cf b0 b1 hyl C2
          have SP3 := hkeep _ _ _ SP'.out
          clear hkeep SP' St2' hc2 hc1'
          have St3' := Lib.hid St3
          obtain ⟨_, x0, x1, _, _⟩ := SP3
          obtain ⟨_, x2, x3, _, _⟩ := SQ
          clear St3
          by_cases hq : Q.2 = 0
          · obtain ⟨g1, g2, g3⟩ := Hmono.out hq
            have e1 : (Q.2 == 0) = true := by simp [hq]
            have e2 : (P.2 == 0) = true := by simp [g1]
            have e2' : (P.2 != 0) = false := by simp [g1]
            have hin := inE_yes g2 g3
            have HI := Lib.hid hin
            clear hq g1 g2 g3 hin Hmono
            go_wp2_with fail
            refine (inside_any P.1 Q.1 _).mono ?_
            rintro e w5 ⟨rfl, hB5⟩
            rw [HI.out]
            clear x0 x1 x2 x3
            go_wp2_with fail
            go_roundw
            case rel => exact ⟨k + 1, by omega, by go_num, St3'.out.next hB5⟩
            case measure => simp [intOf]; omega
          · have e1 : (Q.2 == 0) = false := by simp [hq]
            clear hq Hmono
            go_wp2_with fail
            go_roundw
            case rel => exact ⟨k + 1, by omega, by go_num, St3'.out⟩
            case measure => simp [intOf]; omega
    · have hk64 : ¬ (k : Int) < 5 := by omega
      have hsz : w1.heap.size + 1 < wr.heap.size := St.fns.1
      have W2 := Lib.hid (fun T => with_second St T)
      clear St hlt
      go_wp2_with fail
      generalize hV : wr.alloc (.cells #[.func (.func 29) #[] #[], .func (.func 31) #[] #[], .func (.func 33) #[] #[], .func (.func 35) #[] #[]] 51) = V
      have HV := Lib.hid hV
      have W3 := Lib.hid (by have := W2.out 51; rw [hV] at this; exact this)
      clear W2 hV
      generalize wr.heap.size = bf at *
      go_loopw [17] (fun i wx => TwoRel w y z (a, b) w1.heap.size bf i wx) (fun i _ => 4 - (intOf i).toNat)
      case atStart => exact ⟨0, by omega, rfl, W3.out⟩
      case round =>
        clear W3
        obtain ⟨k, hk, rfl, St⟩ := hrel
        by_cases hlt : k < 4
        · obtain ⟨f, E, hf, eg, hC, hL, hR⟩ := twos_tab k hlt
          have hm1 := hL z y (a, b) S.out.1 S.out.2.1 S.out.2.2
          have hm2 := hR z y (a, b) S.out.1 S.out.2.1 S.out.2.2
          have C1 := Lib.hid (fun W => hC (a, b) z W HZ.out.1 HZ.out.2)
          have C2 := Lib.hid (fun W => hC y z W HZ.out.1 HZ.out.2)
          have C3 := Lib.hid (fun W => hC z (a, b) W (BD.out.1) (BD.out.2.1))
          have C4 := Lib.hid (fun W => hC z y W (BD.out.2.2.1) (BD.out.2.2.2))
          clear hC hL hR
          simp only at hm1 hm2
          generalize E (a, b) z = P at *
          generalize E y z = Q at *
          generalize E z (a, b) = P2 at *
          generalize E z y = Q2 at *
          have Hm1 := Lib.hid hm1
          have Hm2 := Lib.hid hm2
          have cf := St.fns.2 k f hf
          have hk64 : (k : Int) < 4 := by omega
          have hbf : bf < wr.heap.size := St.fns.1
          obtain ⟨hsl, a0, a1, _, _⟩ := St.ss
          obtain ⟨hzl, g0, g1, _, _⟩ := St.sz
          have cfa := fun o => keep_cell (alloc_below wr o) cf hbf
          have a0a := fun o => keep_cell (alloc_below wr o) a0 hsl
          have a1a := fun o => keep_cell (alloc_below wr o) a1 hsl
          have g0a := fun o => keep_cell (alloc_below wr o) g0 hzl
          have g1a := fun o => keep_cell (alloc_below wr o) g1 hzl
          have St1 := Lib.hid St
          clear St hm1 hm2
          go_upto_region 17 with (fail)
          go_cut [18, 19] (fun u v wx => PutAt w wr wx y z (a, b) w1.heap.size bf twosL P u v)
          case first =>
            go_region_held3 (fun w' => w'.cell? ⟨bf, k, none⟩ = some (.func (.func f) #[] #[]) ∧ w'.cell? ⟨w1.heap.size, 0, none⟩ = some (.int .i64 a) ∧ w'.cell? ⟨w1.heap.size, 1, none⟩ = some (.int .i64 b) ∧ w'.cell? ⟨w.heap.size + 1, 0, none⟩ = some (.int .i64 z.1) ∧ w'.cell? ⟨w.heap.size + 1, 1, none⟩ = some (.int .i64 z.2))
              ((go_split_ands; (repeat' apply And.intro) <;> (first
                | assumption
                | exact keep_cell hN (by assumption) (by first | assumption | (dsimp only; omega))
                | exact keep_cell (alloc_below _ _) (by assumption) (by first | assumption | (dsimp only; omega))
                | ((repeat (rw [World.cell?_setCell_other (h := by first | (simp; done) | (simp; omega))])); assumption)
                | exact kc0 _
                | exact kc1 _
                | exact kc2 _
                | exact kc3 _
                | exact kc4 _
                | exact kd0
                | exact ke0 _
                | exact kf0 _ _
                | exact kd1
                | exact ke1 _
                | exact kf1 _ _
                | exact kd2
                | exact ke2 _
                | exact kf2 _ _
                | exact kd3
                | exact ke3 _
                | exact kf3 _ _
                | exact kd4
                | exact ke4 _
                | exact kf4 _ _
                | (go_keep; done))))
              (first
                | (go_at_fn f; refine (C1.out _).mono ?_; unfold pairV; rintro e w2 ⟨rfl, hN⟩; first
                    | (have hA : Below wr.heap.size wr w2 := (by first | exact hN | exact undrew hN)
                       have hzz : wr.heap.size ≤ w2.heap.size := hA.size
                       have kc0 := fun o => keep_cell (alloc_below w2 o) (keep_cell hA cf (by dsimp only; omega)) (by dsimp only; omega)
                       have kc1 := fun o => keep_cell (alloc_below w2 o) (keep_cell hA a0 (by dsimp only; omega)) (by dsimp only; omega)
                       have kc2 := fun o => keep_cell (alloc_below w2 o) (keep_cell hA a1 (by dsimp only; omega)) (by dsimp only; omega)
                       have kc3 := fun o => keep_cell (alloc_below w2 o) (keep_cell hA g0 (by dsimp only; omega)) (by dsimp only; omega)
                       have kc4 := fun o => keep_cell (alloc_below w2 o) (keep_cell hA g1 (by dsimp only; omega)) (by dsimp only; omega))
                    | (have hZ : Below (wr.alloc (.cells #[.int .i64 0, .int .i64 0] 23)).heap.size (wr.alloc (.cells #[.int .i64 0, .int .i64 0] 23)) w2 := (by first | exact hN | exact undrew hN)
                       obtain ⟨_, z0, z1, zf0, zf1⟩ := (Slot2.new wr (.int .i64 0) (.int .i64 0) 23).next hZ
                       have hzz : wr.heap.size + 1 ≤ w2.heap.size := (by have := hZ.size; simpa using this)
                       have kd0 := keep_cell hZ (cfa _) (by simp; omega)
                       have ke0 := fun v => (World.cell?_setCell_other (w := w2) (a := ⟨wr.heap.size, 0, none⟩) (v := v) (h := by first | (simp; done) | (simp; omega))).trans kd0
                       have kf0 := fun v u => (World.cell?_setCell_other (w := w2.setCell ⟨wr.heap.size, 0, none⟩ v) (a := ⟨wr.heap.size, 1, none⟩) (v := u) (h := by first | (simp; done) | (simp; omega))).trans (ke0 v)
                       have kd1 := keep_cell hZ (a0a _) (by simp; omega)
                       have ke1 := fun v => (World.cell?_setCell_other (w := w2) (a := ⟨wr.heap.size, 0, none⟩) (v := v) (h := by first | (simp; done) | (simp; omega))).trans kd1
                       have kf1 := fun v u => (World.cell?_setCell_other (w := w2.setCell ⟨wr.heap.size, 0, none⟩ v) (a := ⟨wr.heap.size, 1, none⟩) (v := u) (h := by first | (simp; done) | (simp; omega))).trans (ke1 v)
                       have kd2 := keep_cell hZ (a1a _) (by simp; omega)
                       have ke2 := fun v => (World.cell?_setCell_other (w := w2) (a := ⟨wr.heap.size, 0, none⟩) (v := v) (h := by first | (simp; done) | (simp; omega))).trans kd2
                       have kf2 := fun v u => (World.cell?_setCell_other (w := w2.setCell ⟨wr.heap.size, 0, none⟩ v) (a := ⟨wr.heap.size, 1, none⟩) (v := u) (h := by first | (simp; done) | (simp; omega))).trans (ke2 v)
                       have kd3 := keep_cell hZ (g0a _) (by simp; omega)
                       have ke3 := fun v => (World.cell?_setCell_other (w := w2) (a := ⟨wr.heap.size, 0, none⟩) (v := v) (h := by first | (simp; done) | (simp; omega))).trans kd3
                       have kf3 := fun v u => (World.cell?_setCell_other (w := w2.setCell ⟨wr.heap.size, 0, none⟩ v) (a := ⟨wr.heap.size, 1, none⟩) (v := u) (h := by first | (simp; done) | (simp; omega))).trans (ke3 v)
                       have kd4 := keep_cell hZ (g1a _) (by simp; omega)
                       have ke4 := fun v => (World.cell?_setCell_other (w := w2) (a := ⟨wr.heap.size, 0, none⟩) (v := v) (h := by first | (simp; done) | (simp; omega))).trans kd4
                       have kf4 := fun v u => (World.cell?_setCell_other (w := w2.setCell ⟨wr.heap.size, 0, none⟩ v) (a := ⟨wr.heap.size, 1, none⟩) (v := u) (h := by first | (simp; done) | (simp; omega))).trans (ke4 v))))
            all_goals (go_wp2_with fail; go_meet)
            all_goals first
              | exact put_a St1.out P hA _
              | exact put_b St1.out P _ hZ
          case rest =>
            obtain ⟨c1, rfl, rfl, hc1, St2, SP, hkeep⟩ := hcut
            have hd1 : w.heap.size + 1 < c1 ∧ c1 ≠ w1.heap.size ∧ c1 ≠ bf := by omega
            clear hbf cfa a0a a1a g0a g1a cf a0 a1 g0 g1 hsl hzl St1 hkeep C1 hc1
            have cf := St2.fns.2 k f hf
            have hbf : bf < wc.heap.size := St2.fns.1
            obtain ⟨hyl, b0, b1, _, _⟩ := St2.sy
            obtain ⟨hzl, g0, g1, _, _⟩ := St2.sz
            have cfa := fun o => keep_cell (alloc_below wc o) cf hbf
            have b0a := fun o => keep_cell (alloc_below wc o) b0 hyl
            have b1a := fun o => keep_cell (alloc_below wc o) b1 hyl
            have g0a := fun o => keep_cell (alloc_below wc o) g0 hzl
            have g1a := fun o => keep_cell (alloc_below wc o) g1 hzl
            have hsl : w1.heap.size < wc.heap.size := St2.ss.lies
            have hc12 : c1 < wc.heap.size := SP.lies
            have St2' := Lib.hid St2
            have SP' := Lib.hid SP
            have Hd1 := Lib.hid hd1
            clear St2 SP hd1
            go_upto_region 18 with (fail)
            go_cut [20, 21] (fun u v wx => PutAt w wc wx y z (a, b) w1.heap.size bf twosL Q u v)
            case first =>
              go_region_held3 (fun w' => w'.cell? ⟨bf, k, none⟩ = some (.func (.func f) #[] #[]) ∧ w'.cell? ⟨w.heap.size, 0, none⟩ = some (.int .i64 y.1) ∧ w'.cell? ⟨w.heap.size, 1, none⟩ = some (.int .i64 y.2) ∧ w'.cell? ⟨w.heap.size + 1, 0, none⟩ = some (.int .i64 z.1) ∧ w'.cell? ⟨w.heap.size + 1, 1, none⟩ = some (.int .i64 z.2))
                ((go_split_ands; (repeat' apply And.intro) <;> (first
                  | assumption
                  | exact keep_cell hN (by assumption) (by first | assumption | (dsimp only; omega))
                  | exact keep_cell (alloc_below _ _) (by assumption) (by first | assumption | (dsimp only; omega))
                  | ((repeat (rw [World.cell?_setCell_other (h := by first | (simp; done) | (simp; omega))])); assumption)
                  | exact kc0 _
                  | exact kc1 _
                  | exact kc2 _
                  | exact kc3 _
                  | exact kc4 _
                  | exact kd0
                  | exact ke0 _
                  | exact kf0 _ _
                  | exact kd1
                  | exact ke1 _
                  | exact kf1 _ _
                  | exact kd2
                  | exact ke2 _
                  | exact kf2 _ _
                  | exact kd3
                  | exact ke3 _
                  | exact kf3 _ _
                  | exact kd4
                  | exact ke4 _
                  | exact kf4 _ _
                  | (go_keep; done))))
                (first
                  | (go_at_fn f; refine (C2.out _).mono ?_; unfold pairV; rintro e w2 ⟨rfl, hN⟩; first
                      | (have hA : Below wc.heap.size wc w2 := (by first | exact hN | exact undrew hN)
                         have hzz : wc.heap.size ≤ w2.heap.size := hA.size
                         have kc0 := fun o => keep_cell (alloc_below w2 o) (keep_cell hA cf (by dsimp only; omega)) (by dsimp only; omega)
                         have kc1 := fun o => keep_cell (alloc_below w2 o) (keep_cell hA b0 (by dsimp only; omega)) (by dsimp only; omega)
                         have kc2 := fun o => keep_cell (alloc_below w2 o) (keep_cell hA b1 (by dsimp only; omega)) (by dsimp only; omega)
                         have kc3 := fun o => keep_cell (alloc_below w2 o) (keep_cell hA g0 (by dsimp only; omega)) (by dsimp only; omega)
                         have kc4 := fun o => keep_cell (alloc_below w2 o) (keep_cell hA g1 (by dsimp only; omega)) (by dsimp only; omega))
                      | (have hZ : Below (wc.alloc (.cells #[.int .i64 0, .int .i64 0] 23)).heap.size (wc.alloc (.cells #[.int .i64 0, .int .i64 0] 23)) w2 := (by first | exact hN | exact undrew hN)
                         obtain ⟨_, z0, z1, zf0, zf1⟩ := (Slot2.new wc (.int .i64 0) (.int .i64 0) 23).next hZ
                         have hzz : wc.heap.size + 1 ≤ w2.heap.size := (by have := hZ.size; simpa using this)
                         have kd0 := keep_cell hZ (cfa _) (by simp; omega)
                         have ke0 := fun v => (World.cell?_setCell_other (w := w2) (a := ⟨wc.heap.size, 0, none⟩) (v := v) (h := by first | (simp; done) | (simp; omega))).trans kd0
                         have kf0 := fun v u => (World.cell?_setCell_other (w := w2.setCell ⟨wc.heap.size, 0, none⟩ v) (a := ⟨wc.heap.size, 1, none⟩) (v := u) (h := by first | (simp; done) | (simp; omega))).trans (ke0 v)
                         have kd1 := keep_cell hZ (b0a _) (by simp; omega)
                         have ke1 := fun v => (World.cell?_setCell_other (w := w2) (a := ⟨wc.heap.size, 0, none⟩) (v := v) (h := by first | (simp; done) | (simp; omega))).trans kd1
                         have kf1 := fun v u => (World.cell?_setCell_other (w := w2.setCell ⟨wc.heap.size, 0, none⟩ v) (a := ⟨wc.heap.size, 1, none⟩) (v := u) (h := by first | (simp; done) | (simp; omega))).trans (ke1 v)
                         have kd2 := keep_cell hZ (b1a _) (by simp; omega)
                         have ke2 := fun v => (World.cell?_setCell_other (w := w2) (a := ⟨wc.heap.size, 0, none⟩) (v := v) (h := by first | (simp; done) | (simp; omega))).trans kd2
                         have kf2 := fun v u => (World.cell?_setCell_other (w := w2.setCell ⟨wc.heap.size, 0, none⟩ v) (a := ⟨wc.heap.size, 1, none⟩) (v := u) (h := by first | (simp; done) | (simp; omega))).trans (ke2 v)
                         have kd3 := keep_cell hZ (g0a _) (by simp; omega)
                         have ke3 := fun v => (World.cell?_setCell_other (w := w2) (a := ⟨wc.heap.size, 0, none⟩) (v := v) (h := by first | (simp; done) | (simp; omega))).trans kd3
                         have kf3 := fun v u => (World.cell?_setCell_other (w := w2.setCell ⟨wc.heap.size, 0, none⟩ v) (a := ⟨wc.heap.size, 1, none⟩) (v := u) (h := by first | (simp; done) | (simp; omega))).trans (ke3 v)
                         have kd4 := keep_cell hZ (g1a _) (by simp; omega)
                         have ke4 := fun v => (World.cell?_setCell_other (w := w2) (a := ⟨wc.heap.size, 0, none⟩) (v := v) (h := by first | (simp; done) | (simp; omega))).trans kd4
                         have kf4 := fun v u => (World.cell?_setCell_other (w := w2.setCell ⟨wc.heap.size, 0, none⟩ v) (a := ⟨wc.heap.size, 1, none⟩) (v := u) (h := by first | (simp; done) | (simp; omega))).trans (ke4 v))))
              all_goals (go_wp2_with fail; go_meet)
              all_goals first
                | exact put_a St2'.out Q hA _
                | exact put_b St2'.out Q _ hZ
            case rest =>
              obtain ⟨c2, rfl, rfl, hc2, St3, SQ, hkeep⟩ := hcut
              have SP3 := hkeep _ _ _ SP'.out
              have hd2 : w.heap.size + 1 < c2 ∧ c2 ≠ w1.heap.size ∧ c2 ≠ bf ∧ c1 ≠ c2 := by omega
              clear hbf cfa b0a b1a g0a g1a cf b0 b1 g0 g1 hyl hzl hsl hc12 hkeep SP' St2' C2 hc2
              have Hd2 := Lib.hid hd2
              have St3' := Lib.hid St3
              have HSP := Lib.hid SP3
              have HSQ := Lib.hid SQ
              obtain ⟨_, x0, x1, _, _⟩ := SP3
              obtain ⟨_, x2, x3, _, _⟩ := SQ
              clear St3 hd2
              go_upto_region 19 with (fail)
              go_cut [148] (fun v wx => v = .bool false ∧ WithSt w wx y z (a, b) w1.heap.size bf twosL ∧ Slot2 wx c1 (.int .i64 P.1.1) (.int .i64 P.1.2) ∧ Slot2 wx c2 (.int .i64 Q.1.1) (.int .i64 Q.1.2))
              case first =>
                by_cases hq : Q.2 = 0
                · obtain ⟨t1, t2, t3⟩ := Hm1.out hq
                  have e1 : (Q.2 == 0) = true := by simp [hq]
                  have e2 : (P.2 == 0) = true := by simp [t1]
                  have e2' : (P.2 != 0) = false := by simp [t1]
                  have HI := Lib.hid (inE_yes t2 t3)
                  clear hq t1 t2 t3
                  go_wp2_with fail
                  refine (inside_any P.1 Q.1 _).mono ?_
                  rintro e w5 ⟨rfl, hB5⟩
                  rw [HI.out]
                  clear x0 x1 x2 x3
                  go_wp2_with fail
                  go_meet
                  exact ⟨rfl, St3'.out.next hB5, HSP.out.next hB5, HSQ.out.next hB5⟩
                · have e1 : (Q.2 == 0) = false := by simp [hq]
                  clear hq
                  go_wp2_with fail
                  go_meet
                  exact ⟨rfl, St3'.out, HSP.out, HSQ.out⟩
              case rest =>
                obtain ⟨rfl, St4, SP4, SQ4⟩ := hcut
                clear x0 x1 x2 x3 St3' HSP HSQ Hm1
                have cf := St4.fns.2 k f hf
                have hbf : bf < wc.heap.size := St4.fns.1
                obtain ⟨hsl, a0, a1, _, _⟩ := St4.ss
                obtain ⟨hzl, g0, g1, _, _⟩ := St4.sz
                obtain ⟨d1, d2, d3⟩ := Hd1.out
                obtain ⟨d4, d5, d6, d7⟩ := Hd2.out
                have St4' := Lib.hid St4
                have HSP := Lib.hid SP4
                have HSQ := Lib.hid SQ4
                clear St4 SP4 SQ4 Hd1 Hd2
                go_upto_region 21 with (fail)
                go_cut [19] (fun v wx => v = .int .i64 P2.2 ∧ WithSt w wx y z (a, b) w1.heap.size bf twosL ∧ Slot2 wx c1 (.int .i64 P2.1.1) (.int .i64 P2.1.2) ∧ Slot2 wx c2 (.int .i64 Q.1.1) (.int .i64 Q.1.2))
                case first =>
                  go_region_held3 (fun w' => w'.cell? ⟨bf, k, none⟩ = some (.func (.func f) #[] #[]) ∧ w'.cell? ⟨w.heap.size + 1, 0, none⟩ = some (.int .i64 z.1) ∧ w'.cell? ⟨w.heap.size + 1, 1, none⟩ = some (.int .i64 z.2) ∧ w'.cell? ⟨w1.heap.size, 0, none⟩ = some (.int .i64 a) ∧ w'.cell? ⟨w1.heap.size, 1, none⟩ = some (.int .i64 b))
                    ((go_split_ands; (repeat' apply And.intro) <;> (first
                      | assumption
                      | exact kd0
                      | exact ke0 _
                      | exact kf0 _ _
                      | exact kd1
                      | exact ke1 _
                      | exact kf1 _ _
                      | exact kd2
                      | exact ke2 _
                      | exact kf2 _ _
                      | exact kd3
                      | exact ke3 _
                      | exact kf3 _ _
                      | exact kd4
                      | exact ke4 _
                      | exact kf4 _ _
                      | (go_keep; done))))
                    (first
                      | (go_at_fn f; refine (C3.out _).mono ?_; unfold pairV; rintro e w2 ⟨rfl, hN⟩
                         have hA : Below wc.heap.size wc w2 := (by first | exact hN | exact undrew hN)
                         obtain ⟨_, z0, z1, zf0, zf1⟩ := HSP.out.next hA
                         have kd0 := keep_cell hA cf (by dsimp only; omega)
                         have ke0 := fun v => (World.cell?_setCell_other (w := w2) (a := ⟨c1, 0, none⟩) (v := v) (h := by first | (simp; done) | (simp; omega))).trans kd0
                         have kf0 := fun v u => (World.cell?_setCell_other (w := w2.setCell ⟨c1, 0, none⟩ v) (a := ⟨c1, 1, none⟩) (v := u) (h := by first | (simp; done) | (simp; omega))).trans (ke0 v)
                         have kd1 := keep_cell hA g0 (by dsimp only; omega)
                         have ke1 := fun v => (World.cell?_setCell_other (w := w2) (a := ⟨c1, 0, none⟩) (v := v) (h := by first | (simp; done) | (simp; omega))).trans kd1
                         have kf1 := fun v u => (World.cell?_setCell_other (w := w2.setCell ⟨c1, 0, none⟩ v) (a := ⟨c1, 1, none⟩) (v := u) (h := by first | (simp; done) | (simp; omega))).trans (ke1 v)
                         have kd2 := keep_cell hA g1 (by dsimp only; omega)
                         have ke2 := fun v => (World.cell?_setCell_other (w := w2) (a := ⟨c1, 0, none⟩) (v := v) (h := by first | (simp; done) | (simp; omega))).trans kd2
                         have kf2 := fun v u => (World.cell?_setCell_other (w := w2.setCell ⟨c1, 0, none⟩ v) (a := ⟨c1, 1, none⟩) (v := u) (h := by first | (simp; done) | (simp; omega))).trans (ke2 v)
                         have kd3 := keep_cell hA a0 (by dsimp only; omega)
                         have ke3 := fun v => (World.cell?_setCell_other (w := w2) (a := ⟨c1, 0, none⟩) (v := v) (h := by first | (simp; done) | (simp; omega))).trans kd3
                         have kf3 := fun v u => (World.cell?_setCell_other (w := w2.setCell ⟨c1, 0, none⟩ v) (a := ⟨c1, 1, none⟩) (v := u) (h := by first | (simp; done) | (simp; omega))).trans (ke3 v)
                         have kd4 := keep_cell hA a1 (by dsimp only; omega)
                         have ke4 := fun v => (World.cell?_setCell_other (w := w2) (a := ⟨c1, 0, none⟩) (v := v) (h := by first | (simp; done) | (simp; omega))).trans kd4
                         have kf4 := fun v u => (World.cell?_setCell_other (w := w2.setCell ⟨c1, 0, none⟩ v) (a := ⟨c1, 1, none⟩) (v := u) (h := by first | (simp; done) | (simp; omega))).trans (ke4 v)))
                  all_goals (go_wp2_with fail; go_meet)
                  all_goals exact ⟨rfl, (St4'.out.next hA).both d1 d2 d3 _ _, (HSP.out.next hA).both _ _, (HSQ.out.next hA).apart d7 _ _⟩
                case rest =>
                  obtain ⟨rfl, St5, SP5, SQ5⟩ := hcut
                  clear cf hbf hsl a0 a1 hzl g0 g1 St4' HSP HSQ C3
                  have cf := St5.fns.2 k f hf
                  have hbf : bf < wc.heap.size := St5.fns.1
                  obtain ⟨hyl, b0, b1, _, _⟩ := St5.sy
                  obtain ⟨hzl, g0, g1, _, _⟩ := St5.sz
                  have St5' := Lib.hid St5
                  have HSP := Lib.hid SP5
                  have HSQ := Lib.hid SQ5
                  clear St5 SP5 SQ5
                  go_upto_region 22 with (fail)
                  go_cut [21] (fun v wx => v = .int .i64 Q2.2 ∧ WithSt w wx y z (a, b) w1.heap.size bf twosL ∧ Slot2 wx c1 (.int .i64 P2.1.1) (.int .i64 P2.1.2) ∧ Slot2 wx c2 (.int .i64 Q2.1.1) (.int .i64 Q2.1.2))
                  case first =>
                    go_region_held3 (fun w' => w'.cell? ⟨bf, k, none⟩ = some (.func (.func f) #[] #[]) ∧ w'.cell? ⟨w.heap.size + 1, 0, none⟩ = some (.int .i64 z.1) ∧ w'.cell? ⟨w.heap.size + 1, 1, none⟩ = some (.int .i64 z.2) ∧ w'.cell? ⟨w.heap.size, 0, none⟩ = some (.int .i64 y.1) ∧ w'.cell? ⟨w.heap.size, 1, none⟩ = some (.int .i64 y.2))
                      ((go_split_ands; (repeat' apply And.intro) <;> (first
                        | assumption
                        | exact kd0
                        | exact ke0 _
                        | exact kf0 _ _
                        | exact kd1
                        | exact ke1 _
                        | exact kf1 _ _
                        | exact kd2
                        | exact ke2 _
                        | exact kf2 _ _
                        | exact kd3
                        | exact ke3 _
                        | exact kf3 _ _
                        | exact kd4
                        | exact ke4 _
                        | exact kf4 _ _
                        | (go_keep; done))))
                      (first
                        | (go_at_fn f; refine (C4.out _).mono ?_; unfold pairV; rintro e w2 ⟨rfl, hN⟩
                           have hA : Below wc.heap.size wc w2 := (by first | exact hN | exact undrew hN)
                           obtain ⟨_, z0, z1, zf0, zf1⟩ := HSQ.out.next hA
                           have kd0 := keep_cell hA cf (by dsimp only; omega)
                           have ke0 := fun v => (World.cell?_setCell_other (w := w2) (a := ⟨c2, 0, none⟩) (v := v) (h := by first | (simp; done) | (simp; omega))).trans kd0
                           have kf0 := fun v u => (World.cell?_setCell_other (w := w2.setCell ⟨c2, 0, none⟩ v) (a := ⟨c2, 1, none⟩) (v := u) (h := by first | (simp; done) | (simp; omega))).trans (ke0 v)
                           have kd1 := keep_cell hA g0 (by dsimp only; omega)
                           have ke1 := fun v => (World.cell?_setCell_other (w := w2) (a := ⟨c2, 0, none⟩) (v := v) (h := by first | (simp; done) | (simp; omega))).trans kd1
                           have kf1 := fun v u => (World.cell?_setCell_other (w := w2.setCell ⟨c2, 0, none⟩ v) (a := ⟨c2, 1, none⟩) (v := u) (h := by first | (simp; done) | (simp; omega))).trans (ke1 v)
                           have kd2 := keep_cell hA g1 (by dsimp only; omega)
                           have ke2 := fun v => (World.cell?_setCell_other (w := w2) (a := ⟨c2, 0, none⟩) (v := v) (h := by first | (simp; done) | (simp; omega))).trans kd2
                           have kf2 := fun v u => (World.cell?_setCell_other (w := w2.setCell ⟨c2, 0, none⟩ v) (a := ⟨c2, 1, none⟩) (v := u) (h := by first | (simp; done) | (simp; omega))).trans (ke2 v)
                           have kd3 := keep_cell hA b0 (by dsimp only; omega)
                           have ke3 := fun v => (World.cell?_setCell_other (w := w2) (a := ⟨c2, 0, none⟩) (v := v) (h := by first | (simp; done) | (simp; omega))).trans kd3
                           have kf3 := fun v u => (World.cell?_setCell_other (w := w2.setCell ⟨c2, 0, none⟩ v) (a := ⟨c2, 1, none⟩) (v := u) (h := by first | (simp; done) | (simp; omega))).trans (ke3 v)
                           have kd4 := keep_cell hA b1 (by dsimp only; omega)
                           have ke4 := fun v => (World.cell?_setCell_other (w := w2) (a := ⟨c2, 0, none⟩) (v := v) (h := by first | (simp; done) | (simp; omega))).trans kd4
                           have kf4 := fun v u => (World.cell?_setCell_other (w := w2.setCell ⟨c2, 0, none⟩ v) (a := ⟨c2, 1, none⟩) (v := u) (h := by first | (simp; done) | (simp; omega))).trans (ke4 v)))
                    all_goals (go_wp2_with fail; go_meet)
                    all_goals exact ⟨rfl, (St5'.out.next hA).both d4 d5 d6 _ _, (HSP.out.next hA).apart (Ne.symm d7) _ _, (HSQ.out.next hA).both _ _⟩
                  case rest =>
                    obtain ⟨rfl, St6, SP6, SQ6⟩ := hcut
                    clear cf hbf hyl b0 b1 hzl g0 g1 St5' HSP HSQ C4 d1 d2 d3 d4 d5 d6 d7
                    have St6' := Lib.hid St6
                    obtain ⟨_, x0, x1, _, _⟩ := SP6
                    obtain ⟨_, x2, x3, _, _⟩ := SQ6
                    clear St6
                    by_cases hq : Q2.2 = 0
                    · obtain ⟨t1, t2, t3⟩ := Hm2.out hq
                      have e1 : (Q2.2 == 0) = true := by simp [hq]
                      have e2 : (P2.2 == 0) = true := by simp [t1]
                      have e2' : (P2.2 != 0) = false := by simp [t1]
                      have HI := Lib.hid (inE_yes t2 t3)
                      clear hq t1 t2 t3 Hm2
                      go_wp2_with fail
                      refine (inside_any P2.1 Q2.1 _).mono ?_
                      rintro e w5 ⟨rfl, hB5⟩
                      rw [HI.out]
                      clear x0 x1 x2 x3
                      go_wp2_with fail
                      go_roundw
                      case rel => exact ⟨k + 1, by omega, by go_num, St6'.out.next hB5⟩
                      case measure => simp [intOf]; omega
                    · have e1 : (Q2.2 == 0) = false := by simp [hq]
                      clear hq Hm2
                      go_wp2_with fail
                      go_roundw
                      case rel => exact ⟨k + 1, by omega, by go_num, St6'.out⟩
                      case measure => simp [intOf]; omega
        · have hk64 : ¬ (k : Int) < 4 := by omega
          have HB := Lib.hid St.below
          clear St hlt
          go_wp2_with fail
          refine (awake_any _ (HM.out.below HB.out) (HP.out.below HB.out)).mono ?_
          rintro e w9 ⟨rfl, hB9⟩
          have HF := Lib.hid (below_next HB.out hB9)
          clear hB9
          go_wp2_with fail
          go_ret
          exact ⟨rfl, HF.out⟩
end Go.Proofs.YtnjedigjabijcaaDoor
