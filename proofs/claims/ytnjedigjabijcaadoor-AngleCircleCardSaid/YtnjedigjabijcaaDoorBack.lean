import Derived.Test.YtnjedigjabijcaaDoorEncl
import Derived.Test.YtnjedigjabijcaaDoorBackMath
namespace Go.Proofs.YtnjedigjabijcaaDoor
open Go Go.RowKit

theorem run_sameE (a b c d : Int) (w : World) : (Op.equalIn 10000 23 (.agg #[.int .i64 a, .int .i64 b]) (.agg #[.int .i64 c, .int .i64 d])).run Tryd.prog w = .ok ((a == c) && (b == d)) w := by
  have h1 : Tryd.prog.underlying 23 = some (.struct (Tryd.prog.fieldsOf 23)) := by kernel_rfl
  have h2 : Tryd.prog.stoodInHeld 23 = false := by kernel_rfl
  rw [run_equalIn_agg w 9999 23 _ _ h1 h2]
  unfold Program.fieldsOf
  rw [Tryd.underlying23]
  have e3 : ∀ (x y : Int) (w : World), (Op.equalIn 9999 3 (.int .i64 x) (.int .i64 y)).run Tryd.prog w = .ok (x == y) w := fun x y w => run_equalIn_int w 9998 3 .i64 .i64 x y Tryd.underlying3
  have p0 : ∀ (x y : Value) (w : World), (part 3 #[x, y] 0).run Tryd.prog w = .ok x w := fun _ _ _ => by kernel_rfl
  have p1 : ∀ (x y : Value) (w : World), (part 3 #[x, y] 1).run Tryd.prog w = .ok y w := fun _ _ _ => by kernel_rfl
  cases h3 : a == c <;> cases h4 : b == d <;> simp [Op.eqFields, Sem.run_bind, p0, p1, e3, h3, h4]
theorem run_neqE (a b : Int) (w : World) : (binOp .neq 23 (.agg #[.int .i64 a, .int .i64 b]) (.agg #[.int .i64 a, .int .i64 b])).run Tryd.prog w = .ok (.bool false) w := by
  rw [run_neq_struct, run_sameE]
  simp

set_option maxRecDepth 100000 in
set_option maxHeartbeats 4000000 in
theorem law_back_out (a v : Int) (w : World) (hm : MarkTab w) (hp : PowTab w) (h : a < 0 ∨ (0 ≤ a ∧ 180000000 < a) ∨ (0 ≤ a ∧ a ≤ 180000000 ∧ v < -100000000) ∨ (0 ≤ a ∧ a ≤ 180000000 ∧ -100000000 ≤ v ∧ 100000000 < v)) :
    Calls Tryd.prog 10 #[.int .i64 a, .int .i64 v] w fun e w' => e = .returned (.bool true) ∧ Below w.heap.size w w' := by
  have HM := Lib.hid hm
  have HP := Lib.hid hp
  clear hm hp
  rcases h with h | ⟨h, g1⟩ | ⟨h, g1, g2⟩ | ⟨h, g1, g2, g3⟩
  all_goals
    go_enter Tryd.func10, Tryd.ntmps10
    go_wp2_with fail
    refine (awake_any _ HM.out HP.out).mono ?_
    rintro e w2 ⟨rfl, hB2⟩
    have HB := Lib.hid hB2
    clear hB2
    go_wp2_with fail
    go_ret
    exact ⟨rfl, HB.out⟩

theorem Slot2.both {V : World} {b : Nat} {x y : Value} (h : Slot2 V b x y) (z u : Value) : Slot2 ((V.setCell ⟨b, 0, none⟩ z).setCell ⟨b, 1, none⟩ u) b z u := (h.set0 z).set1 u
theorem Slot2.apart {V : World} {b c : Nat} {x y : Value} (h : Slot2 V b x y) (hne : c ≠ b) (z u : Value) : Slot2 ((V.setCell ⟨c, 0, none⟩ z).setCell ⟨c, 1, none⟩ u) b x y := (h.far _ hne z).far _ hne u
theorem below_both {w V : World} (h : Below w.heap.size w V) {b : Nat} (hb : w.heap.size ≤ b) (z u : Value) : Below w.heap.size w ((V.setCell ⟨b, 0, none⟩ z).setCell ⟨b, 1, none⟩ u) := (h.setCell hb z).setCell hb u

set_option maxRecDepth 100000 in
set_option maxHeartbeats 8000000 in
theorem law_back_in (a v : Int) (c b1 s b2 b3 l h : Int × Int) (w : World) (hm : MarkTab w) (hp : PowTab w)
    (i0 : 0 ≤ a) (i1 : a ≤ 180000000) (i2 : -100000000 ≤ v) (i3 : v ≤ 100000000)
    (E1 : cosOfE a a = (c, 0)) (E2 : arccosE c.1 c.2 = (b1, 0)) (E3 : sinOfE (a - 90000000) (a - 90000000) = (s, 0)) (E4 : arcsinE s.1 s.2 = (b2, 0))
    (E5 : arccosE v v = (b3, 0)) (E6 : arcsinE v v = ((90000000 - b3.2, 90000000 - b3.1), 0)) (E7 : cosOfE b3.1 b3.1 = (l, 0)) (E8 : cosOfE b3.2 b3.2 = (h, 0))
    (f1 : b1.1 ≤ a) (f2 : a ≤ b1.2) (f3 : b2.1 ≤ a - 90000000) (f4 : a - 90000000 ≤ b2.2)
    (f5 : 0 ≤ b3.1) (f6 : b3.1 ≤ 180000000) (f7 : 0 ≤ b3.2) (f8 : b3.2 ≤ 180000000) (f9 : b3.2 - b3.1 ≤ 1) (f10 : v ≤ l.2) (f11 : h.1 ≤ v) :
    Calls Tryd.prog 10 #[.int .i64 a, .int .i64 v] w fun e w' => e = .returned (.bool true) ∧ Below w.heap.size w w' := by
  have HM := Lib.hid hm
  have HP := Lib.hid hp
  have F1 := Lib.hid E1
  have F2 := Lib.hid E2
  have F3 := Lib.hid E3
  have F4 := Lib.hid E4
  have F5 := Lib.hid E5
  have F6 := Lib.hid E6
  have F7 := Lib.hid E7
  have F8 := Lib.hid E8
  clear hm hp E1 E2 E3 E4 E5 E6 E7 E8
  go_enter Tryd.func10, Tryd.ntmps10
  go_wp2_with fail
  refine (cos_any a _).mono ?_
  rw [F1.out]
  unfold pairV
  rintro e w1 ⟨rfl, hB1⟩
  simp only
  have SC := Slot2.new w1 (.int .i64 c.1) (.int .i64 c.2) 23
  have k1 := below_alloc hB1 (.cells #[.int .i64 c.1, .int .i64 c.2] 23)
  clear hB1 F1
  go_wp2_with fail
  refine (arccos_any c.1 c.2 _).mono ?_
  rw [F2.out]
  unfold pairV
  rintro e w2 ⟨rfl, hB2⟩
  simp only
  have SB := Slot2.new w2 (.int .i64 b1.1) (.int .i64 b1.2) 23
  have k2 := below_alloc (below_next k1 hB2) (.cells #[.int .i64 b1.1, .int .i64 b1.2] 23)
  have z2 : w.heap.size ≤ w2.heap.size := (below_next k1 hB2).size
  clear hB2 k1 SC F2
  go_wp2_with fail
  refine (sin_any (a - 90000000) _).mono ?_
  rw [F3.out]
  unfold pairV
  rintro e w3 ⟨rfl, hB3⟩
  simp only
  have SB := (SB.next hB3).alloc (.cells #[.int .i64 s.1, .int .i64 s.2] 23)
  have k3 := below_alloc (below_next k2 hB3) (.cells #[.int .i64 s.1, .int .i64 s.2] 23)
  clear hB3 k2 F3
  go_wp2_with fail
  refine (arcsin_any s.1 s.2 _).mono ?_
  rw [F4.out]
  unfold pairV
  rintro e w4 ⟨rfl, hB4⟩
  simp only
  have SB4 := SB.next hB4
  have k4 := below_next k3 hB4
  have SB := SB4.both (.int .i64 b2.1) (.int .i64 b2.2)
  have k4 := below_both k4 (b := w2.heap.size) z2 (.int .i64 b2.1) (.int .i64 b2.2)
  clear hB4 k3 F4
  have SB' := SB
  obtain ⟨x0, x1, x2, x3, x4⟩ := SB4
  obtain ⟨y0, y1, y2, y3, y4⟩ := SB'
  go_wp2_with fail
  refine (x_any v v _).mono ?_
  rintro e w5 ⟨rfl, hB5⟩
  have SB := SB.next hB5
  have k5 := below_next k4 hB5
  clear hB5 k4 x0 x1 x2 x3 x4 y0 y1 y2 y3 y4
  go_wp2_with fail
  refine (arccos_any v v _).mono ?_
  rw [F5.out]
  unfold pairV
  rintro e w6 ⟨rfl, hB6⟩
  simp only
  have SB6 := SB.next hB6
  have k6 := below_next k5 hB6
  have SB := SB6.both (.int .i64 b3.1) (.int .i64 b3.2)
  have k6 := below_both k6 (b := w2.heap.size) z2 (.int .i64 b3.1) (.int .i64 b3.2)
  clear hB6 k5 F5
  obtain ⟨x0, x1, x2, x3, x4⟩ := SB6
  go_wp2_with fail
  refine (x_any v v _).mono ?_
  rintro e w7 ⟨rfl, hB7⟩
  have SB := SB.next hB7
  have k7 := below_next k6 hB7
  clear hB7 k6 x0 x1 x2 x3 x4
  go_wp2_with fail
  refine (arcsin_any v v _).mono ?_
  rw [F6.out]
  unfold pairV
  rintro e w8 ⟨rfl, hB8⟩
  simp only
  have SB := (SB.next hB8).alloc (.cells #[.int .i64 (90000000 - b3.2), .int .i64 (90000000 - b3.1)] 23)
  have SD := Slot2.new w8 (.int .i64 (90000000 - b3.2)) (.int .i64 (90000000 - b3.1)) 23
  have HK := Lib.hid (below_alloc (below_next k7 hB8) (.cells #[.int .i64 (90000000 - b3.2), .int .i64 (90000000 - b3.1)] 23))
  clear hB8 k7 F6
  go_upto_region 13 with (fail)
  go_cut [125] (fun u wx => u = .bool false ∧ Below w.heap.size w wx ∧ Slot2 wx w2.heap.size (.int .i64 b3.1) (.int .i64 b3.2))
  case first =>
    have SB' := SB
    obtain ⟨x0, x1, x2, _, _⟩ := SB'
    obtain ⟨y0, y1, y2, _, _⟩ := SD
    have HS := Lib.hid SB
    clear SB
    generalize w8.alloc (.cells #[.int .i64 (90000000 - b3.2), .int .i64 (90000000 - b3.1)] 23) = W at *
    have hn := fun w => run_neqE (90000000 - b3.2) (90000000 - b3.1) w
    have hd : decide (1 < b3.2 - b3.1) = false := decide_eq_false (by omega)
    have hq1 : IntKind.i64.wrap (b3.2 - b3.1) = b3.2 - b3.1 := IntWalk.i64_in _ (by omega)
    have hq2 : IntKind.i64.wrap (90000000 - b3.2) = 90000000 - b3.2 := IntWalk.i64_in _ (by omega)
    have hq3 : IntKind.i64.wrap (90000000 - b3.1) = 90000000 - b3.1 := IntWalk.i64_in _ (by omega)
    clear f1 f2 f3 f4 f10 f11
    go_region_held3 (fun w' => w'.cell? ⟨w2.heap.size, 0, none⟩ = some (.int .i64 b3.1) ∧ w'.cell? ⟨w2.heap.size, 1, none⟩ = some (.int .i64 b3.2) ∧ w'.cell? ⟨w8.heap.size, 0, none⟩ = some (.int .i64 (90000000 - b3.2)) ∧ w'.cell? ⟨w8.heap.size, 1, none⟩ = some (.int .i64 (90000000 - b3.1)))
      ((go_split_ands; (repeat' apply And.intro) <;> (first
        | assumption
        | exact keep_cell hN (by assumption) (by first | assumption | (simp; done) | (show _ < _; omega))
        | (go_keep; done))))
      (first
        | (go_at_call 46; refine (x_any _ _ _).mono ?_; rintro e wN ⟨rfl, hN⟩; have hzN : W.heap.size ≤ wN.heap.size := hN.size; have KN := Lib.hid (below_next HK.out (undrew hN)); have SN := Lib.hid (HS.out.next (undrew hN))))
    clear hn hd hq1 hq2 hq3
    go_wp2_with fail
    go_meet
    exact ⟨rfl, KN.out, SN.out⟩
  case rest =>
    obtain ⟨rfl, k9, SB9⟩ := hcut
    clear SB SD HK
    have SB' := SB9
    obtain ⟨x0, x1, x2, _, _⟩ := SB'
    go_wp2_with fail
    refine (cos_any b3.1 _).mono ?_
    rw [F7.out]
    unfold pairV
    rintro e w10 ⟨rfl, hB10⟩
    simp only
    have SB10 := SB9.next hB10
    have SL := Slot2.new w10 (.int .i64 l.1) (.int .i64 l.2) 23
    have k10 := below_alloc (below_next k9 hB10) (.cells #[.int .i64 l.1, .int .i64 l.2] 23)
    clear x0 x1 x2 hB10 k9 SB9 F7
    obtain ⟨x0, x1, x2, _, _⟩ := SB10
    go_wp2_with fail
    refine (cos_any b3.2 _).mono ?_
    rw [F8.out]
    unfold pairV
    rintro e w11 ⟨rfl, hB11⟩
    simp only
    have SL11 := SL.next hB11
    have HK := Lib.hid (below_alloc (below_next k10 hB11) (.cells #[.int .i64 h.1, .int .i64 h.2] 23))
    clear x0 x1 x2 hB11 k10 F8 SL
    obtain ⟨x0, x1, x2, _, _⟩ := SL11
    go_wp2_with fail
    refine (awake_any _ (HM.out.below HK.out) (HP.out.below HK.out)).mono ?_
    rintro e w12 ⟨rfl, hB12⟩
    have HB := Lib.hid (below_next HK.out hB12)
    clear hB12
    go_wp2_with fail
    go_ret
    exact ⟨rfl, HB.out⟩
end Go.Proofs.YtnjedigjabijcaaDoor
