import Derived.Test.YtnjedigjabijcaaDoorSine5
import Derived.Deep.RegionHeld3
import Derived.Deep.RegionWith
import Derived.Deep.DeepCutAuto
namespace Go.Proofs.YtnjedigjabijcaaDoor
open Go Go.RowKit

theorem hull1_any (p q : Int × Int) (b cap : Nat) (w : World) (hb : b < w.heap.size) (c0 : w.cell? ⟨b, 0, none⟩ = some (.int .i64 q.1)) (c1 : w.cell? ⟨b, 1, none⟩ = some (.int .i64 q.2)) :
    Calls Tryd.prog 76 #[.agg #[.int .i64 p.1, .int .i64 p.2], .slice (some ⟨b, 0, none⟩) 1 cap] w
      fun e w' => e = .returned (.agg #[.int .i64 (hullS p q).1, .int .i64 (hullS p q).2]) ∧ Below w.heap.size w w' :=
  hull_any p.1 p.2 b 0 cap [q] (by simp) w ⟨hb, fun i hi => by
    obtain rfl : i = 0 := by simpa using hi
    exact ⟨c0, c1⟩⟩

theorem keep_cell {V V' : World} {B : Nat} {p : Addr} {v : Value} (hB : Below B V V') (h : V.cell? p = some v) (hp : p.block < B) : V'.cell? p = some v := by rw [hB.cell hp, h]
theorem keep_free {V V' : World} {B : Nat} {p : Addr} {v : Bool} (hB : Below B V V') (h : V.frozen? p = v) (hp : p.block < B) : V'.frozen? p = v := by rw [hB.frozen hp, h]

theorem alloc_below (V : World) (o : Obj) : Below V.heap.size V (V.alloc o) := (Below.refl _ _).alloc (Nat.le_refl _) o

/-- The enclosure of the sines of some angles. -/
def sinesE (lo hi : Int) : Int × Int :=
  let s := if lo < hi then hullS (sineE lo) (sineE hi) else sineE lo
  (if passB lo hi (-90000000) then -100000000 else s.1, if passB lo hi 90000000 then 100000000 else s.2)

/-- The join of the sines of both ends. -/
def endsE (lo hi : Int) : Int × Int := if lo < hi then hullS (sineE lo) (sineE hi) else sineE lo

theorem sinesE_eq (lo hi : Int) : sinesE lo hi = (if passB lo hi (-90000000) then -100000000 else (endsE lo hi).1, if passB lo hi 90000000 then 100000000 else (endsE lo hi).2) := rfl
theorem endsE_no (lo hi : Int) (h : ¬ lo < hi) : endsE lo hi = sineE lo := if_neg h
theorem endsE_yes (lo hi : Int) (h : lo < hi) : endsE lo hi = hullS (sineE lo) (sineE hi) := if_pos h
theorem undrew {B : Nat} {a w : World} (h : Below B a.drew w) : Below B a w := ⟨h.os, h.tape, h.output, h.size, h.block⟩
theorem sines_meet {lo hi : Int} {w w1 w2 w3 : World} {o : Obj} {x y : Value} (hlt : lo < hi) (hB : Below w.heap.size w w1) (liesA : w.heap.size < w1.heap.size) (hRs : w.heap.size + 1 ≠ w1.heap.size)
    (SA : Slot2 (w1.alloc o) w.heap.size (.int .i64 lo) (.int .i64 hi)) (SR : Slot2 (w1.alloc o) (w.heap.size + 1) (.int .i64 0) (.int .i64 0)) (SS : Slot2 (w1.alloc o) w1.heap.size x y)
    (b2 : Below (w1.alloc o).heap.size (w1.alloc o) w2) (b3 : Below (w2.alloc (.cells #[.int .i64 (sineE hi).1, .int .i64 (sineE hi).2] 23)).heap.size (w2.alloc (.cells #[.int .i64 (sineE hi).1, .int .i64 (sineE hi).2] 23)) w3) :
    Below w.heap.size w ((w3.setCell ⟨w1.heap.size, 0, none⟩ (.int .i64 (hullS (sineE lo) (sineE hi)).1)).setCell ⟨w1.heap.size, 1, none⟩ (.int .i64 (hullS (sineE lo) (sineE hi)).2)) ∧
      Slot2 ((w3.setCell ⟨w1.heap.size, 0, none⟩ (.int .i64 (hullS (sineE lo) (sineE hi)).1)).setCell ⟨w1.heap.size, 1, none⟩ (.int .i64 (hullS (sineE lo) (sineE hi)).2)) w.heap.size (.int .i64 lo) (.int .i64 hi) ∧
      Slot2 ((w3.setCell ⟨w1.heap.size, 0, none⟩ (.int .i64 (hullS (sineE lo) (sineE hi)).1)).setCell ⟨w1.heap.size, 1, none⟩ (.int .i64 (hullS (sineE lo) (sineE hi)).2)) (w.heap.size + 1) (.int .i64 0) (.int .i64 0) ∧
      Slot2 ((w3.setCell ⟨w1.heap.size, 0, none⟩ (.int .i64 (hullS (sineE lo) (sineE hi)).1)).setCell ⟨w1.heap.size, 1, none⟩ (.int .i64 (hullS (sineE lo) (sineE hi)).2)) w1.heap.size (.int .i64 (endsE lo hi).1) (.int .i64 (endsE lo hi).2) := by
  rw [endsE_yes lo hi hlt]
  have k2 := b2.trans ((alloc_below w2 (.cells #[.int .i64 (sineE hi).1, .int .i64 (sineE hi).2] 23)).mono b2.size)
  have k3 := k2.trans (b3.mono k2.size)
  have k0 := hB.trans ((alloc_below w1 o).mono hB.size)
  refine ⟨?_, ?_, ?_, ?_⟩
  · exact (((k0.trans (k3.mono k0.size)).setCell (by simpa using hB.size) _).setCell (by simpa using hB.size) _)
  · exact ((SA.below k3 SA.lies).far _ (by simp; omega) _).far _ (by simp; omega) _
  · exact ((SR.below k3 SR.lies).far _ (Ne.symm hRs) _).far _ (Ne.symm hRs) _
  · exact ((SS.below k3 SS.lies).set0 _).set1 _

set_option maxHeartbeats 2000000 in
theorem sines_any (lo hi : Int) (h0 : -4000000000 ≤ lo) (h1 : lo ≤ 4000000000) (h2 : -4000000000 ≤ hi) (h3 : hi ≤ 4000000000) (w : World) :
    Calls Tryd.prog 50 #[.agg #[.int .i64 lo, .int .i64 hi]] w fun e w' => e = .returned (.agg #[.int .i64 (sinesE lo hi).1, .int .i64 (sinesE lo hi).2]) ∧ Below w.heap.size w w' := by
  have SA0 := (Slot2.new w (.int .i64 lo) (.int .i64 hi) 23).alloc (.cells #[.int .i64 0, .int .i64 0] 23)
  have SR0 := Slot2.new (w.alloc (.cells #[.int .i64 lo, .int .i64 hi] 23)) (.int .i64 0) (.int .i64 0) 23
  simp only [World.size_alloc] at SR0
  go_enter Tryd.func50, Tryd.ntmps50
  go_wp2_with fail
  refine (sine_any _ (by omega) (by omega) _).mono ?_
  rintro e w1 ⟨rfl, hB1⟩
  simp only [World.size_alloc] at hB1
  have SA1 := SA0.below hB1 (by omega)
  have hz1 := hB1.size
  simp only [World.size_alloc] at hz1
  have SR1 := (SR0.below hB1 (by omega)).alloc (.cells #[.int .i64 (sineE lo).1, .int .i64 (sineE lo).2] 23)
  have SA2 := SA1.alloc (.cells #[.int .i64 (sineE lo).1, .int .i64 (sineE lo).2] 23)
  have SS1 := Slot2.new w1 (.int .i64 (sineE lo).1) (.int .i64 (sineE lo).2) 23
  have hB : Below w.heap.size w w1 := (((Below.refl w.heap.size w).alloc (Nat.le_refl _) _).alloc (by simp) _).trans (hB1.mono (by omega))
  obtain ⟨liesA, a0, a1, af0, af1⟩ := SA1
  clear SA0 SR0
  go_upto_if 11 with (fail)
  go_cut [] (fun wx => Below w.heap.size w wx ∧ Slot2 wx w.heap.size (.int .i64 lo) (.int .i64 hi) ∧ Slot2 wx (w.heap.size + 1) (.int .i64 0) (.int .i64 0) ∧ Slot2 wx w1.heap.size (.int .i64 (endsE lo hi).1) (.int .i64 (endsE lo hi).2))
  case first =>
    by_cases hlt : lo < hi
    · have HK := fun w2 w3 b2 b3 => sines_meet (lo := lo) (hi := hi) hlt hB liesA (by omega) SA2 SR1 SS1 (w2 := w2) (w3 := w3) b2 b3
      have HM := Lib.hid HK
      clear HK
      obtain ⟨liesS, s0, s1, sf0, sf1⟩ := SS1
      go_wp2_with fail
      go_region_with (first
        | (go_at_call 75; refine (sine_any hi (by omega) (by omega) _).mono ?_; rintro e w2 ⟨rfl, hB2⟩; have hz2 := hB2.size; simp at hz2;
           have t0 := keep_cell hB2 s0 (by simp); have t1 := keep_cell hB2 s1 (by simp); have tf0 := keep_free hB2 sf0 (by simp); have tf1 := keep_free hB2 sf1 (by simp);
           have t0a := fun o => keep_cell (alloc_below w2 o) t0 (by simp; omega); have t1a := fun o => keep_cell (alloc_below w2 o) t1 (by simp; omega))
        | (go_at_call 76; have SX := Slot2.new w2 (.int .i64 (sineE hi).1) (.int .i64 (sineE hi).2) 23; refine (hull1_any (sineE lo) (sineE hi) _ _ _ SX.lies SX.cell0 SX.cell1).mono ?_; rintro e w3 ⟨rfl, hB3⟩; have hz3 := hB3.size; simp at hz3;
           have u0 := keep_cell hB3 ((World.cell?_alloc_lt _ _ _ (by simp; omega)).trans t0) (by simp; omega); have u1 := keep_cell hB3 ((World.cell?_alloc_lt _ _ _ (by simp; omega)).trans t1) (by simp; omega);
           have uf0 := keep_free hB3 (keep_free (alloc_below _ _) tf0 (by simp; omega)) (by simp; omega); have uf1 := keep_free hB3 (keep_free (alloc_below _ _) tf1 (by simp; omega)) (by simp; omega)))
      all_goals (go_wp2_with fail; go_meet)
      all_goals exact HM.out _ _ (by first | exact hB2 | exact undrew hB2) (by first | exact hB3 | exact undrew hB3)
    · rw [← endsE_no lo hi (by omega)] at SS1
      have HM := Lib.hid (And.intro (hB.trans (alloc_below w1 (.cells #[.int .i64 (sineE lo).1, .int .i64 (sineE lo).2] 23) |>.mono hB.size)) (And.intro SA2 (And.intro SR1 SS1)))
      clear SA2 SR1 SS1
      rw [endsE_no lo hi (by omega)] at HM
      go_wp2
      go_meet
      rw [endsE_no lo hi (by omega)]
      exact HM.out
  case rest =>
    obtain ⟨hBx, SAx, SRx, SSx⟩ := hcut
    have hRs : w.heap.size + 1 < w1.heap.size := by omega
    clear SA2 SR1 SS1 a0 a1 af0 af1 hB1
    have E := Lib.hid (sinesE_eq lo hi)
    generalize endsE lo hi = p at *
    have SA := SAx
    obtain ⟨liesA, a0, a1, af0, af1⟩ := SA
    go_wp2_with fail
    refine (passes_any lo hi 90000000 (by omega) (by omega) (by omega) (by omega) _).mono ?_
    rintro e w4 ⟨rfl, hB4⟩
    have SA4 := SAx.below hB4 SAx.lies
    have SR4 := SRx.below hB4 SRx.lies
    have SS4 := SSx.below hB4 SSx.lies
    have hB4' := hBx.trans (hB4.mono hBx.size)
    clear SAx SRx SSx hBx hB4 liesA a0 a1 af0 af1 hB
    go_upto_if 19 with (fail)
    go_cut [] (fun wx => Below w.heap.size w wx ∧ Slot2 wx w.heap.size (.int .i64 lo) (.int .i64 hi) ∧ Slot2 wx (w.heap.size + 1) (.int .i64 0) (.int .i64 0) ∧ Slot2 wx w1.heap.size (.int .i64 p.1) (.int .i64 (if passB lo hi 90000000 then 100000000 else p.2)))
    case first =>
      cases hp1 : passB lo hi 90000000
      · have P1 := Lib.hid hp1
        clear hp1
        have HM := Lib.hid (And.intro hB4' (And.intro SA4 (And.intro SR4 SS4)))
        clear SA4 SR4 SS4 hB4'
        go_wp2
        go_meet
        rw [P1.out]
        exact HM.out
      · have P1 := Lib.hid hp1
        clear hp1
        have HM := Lib.hid (And.intro (hB4'.setCell (p := ⟨w1.heap.size, 1, none⟩) (by simp; omega) (.int .i64 100000000)) (And.intro (SA4.far ⟨w1.heap.size, 1, none⟩ (by simp; omega) (.int .i64 100000000)) (And.intro (SR4.far ⟨w1.heap.size, 1, none⟩ (by simp; omega) (.int .i64 100000000)) (SS4.set1 (.int .i64 100000000)))))
        obtain ⟨liesS, s0, s1, sf0, sf1⟩ := SS4
        clear SA4 SR4 hB4'
        go_wp2
        go_meet
        rw [P1.out]
        exact HM.out
    case rest =>
      obtain ⟨hBy, SAy, SRy, SSy⟩ := hcut
      clear SA4 SR4 SS4 hB4'
      generalize (if passB lo hi 90000000 then (100000000 : Int) else p.2) = q at *
      have SA := SAy
      obtain ⟨liesA, a0, a1, af0, af1⟩ := SA
      go_wp2_with fail
      refine (passes_any lo hi (-90000000) (by omega) (by omega) (by omega) (by omega) _).mono ?_
      rintro e w5 ⟨rfl, hB5⟩
      have SR5 := SRy.below hB5 SRy.lies
      have SS5 := SSy.below hB5 SSy.lies
      have hB5' := hBy.trans (hB5.mono hBy.size)
      clear SAy SRy SSy hBy hB5 liesA a0 a1 af0 af1
      cases hp2 : passB lo hi (-90000000)
      · rw [hp2] at E
        clear hp2
        have SF := (SR5.set0 (.int .i64 p.1)).set1 (.int .i64 q)
        have HB := Lib.hid ((hB5'.setCell (p := ⟨w.heap.size + 1, 0, none⟩) (by simp) (.int .i64 p.1)).setCell (p := ⟨w.heap.size + 1, 1, none⟩) (by simp) (.int .i64 q))
        obtain ⟨liesS, s0, s1, sf0, sf1⟩ := SS5
        obtain ⟨liesR, r0, r1, rf0, rf1⟩ := SR5
        clear hB5'
        go_wp2
        refine bodyPost_ret (v := .agg #[.int .i64 p.1, .int .i64 q]) (by simp [results, Tryd.results50, go_sem, SF.cell0, SF.cell1]) rfl ⟨?_, HB.out⟩
        rw [E.out]; rfl
      · rw [hp2] at E
        clear hp2
        have SQ := SS5.set0 (.int .i64 (-100000000))
        have SF := ((SR5.far ⟨w1.heap.size, 0, none⟩ (by simp; omega) (.int .i64 (-100000000))).set0 (.int .i64 (-100000000))).set1 (.int .i64 q)
        have HB := Lib.hid (((hB5'.setCell (p := ⟨w1.heap.size, 0, none⟩) (by simp; omega) (.int .i64 (-100000000))).setCell (p := ⟨w.heap.size + 1, 0, none⟩) (by simp) (.int .i64 (-100000000))).setCell (p := ⟨w.heap.size + 1, 1, none⟩) (by simp) (.int .i64 q))
        obtain ⟨liesS, s0, s1, sf0, sf1⟩ := SS5
        obtain ⟨liesR, r0, r1, rf0, rf1⟩ := SR5
        obtain ⟨_, q0, q1, _, _⟩ := SQ
        clear hB5'
        go_wp2
        refine bodyPost_ret (v := .agg #[.int .i64 (-100000000), .int .i64 q]) (by simp [results, Tryd.results50, go_sem, SF.cell0, SF.cell1]) rfl ⟨?_, HB.out⟩
        rw [E.out]; rfl
end Go.Proofs.YtnjedigjabijcaaDoor
