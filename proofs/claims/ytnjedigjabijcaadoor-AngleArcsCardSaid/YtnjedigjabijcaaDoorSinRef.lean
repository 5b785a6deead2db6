import Derived.Test.YtnjedigjabijcaaDoorSine8
import Derived.Test.YtnjedigjabijcaaDoorEncl
import Derived.Deep.RegionLaw
import Derived.Test.YtnjedigjabijcaaDoorSinSteep
import Derived.Deep.RegionHeld3
import Derived.Deep.DeepCutAuto
namespace Go.Proofs.YtnjedigjabijcaaDoor
open Go Go.RowKit

theorem floor_evn (n d : Int) (hd : 1 ≤ d) (hn : n < 0) (hm : n.tmod d = 0) : n.tdiv d = n / d := by
  have h := floor_neg n d hn hd
  rw [if_neg (by omega)] at h
  exact h
theorem floor_rst (n d : Int) (hd : 1 ≤ d) (hn : n < 0) (hm : ¬ n.tmod d = 0) : n.tdiv d - 1 = n / d := by
  have h := floor_neg n d hn hd
  rw [if_pos] at h
  · exact h
  · have e : n.tmod d = -((-n).tmod d) := by rw [Int.neg_tmod]; omega
    have := Int.tmod_nonneg d (show 0 ≤ -n by omega)
    omega

set_option maxHeartbeats 1000000 in
/-- The reference's quotient, rounded down. -/
theorem rsdown_any (n d : Int) (hd : 1 ≤ d) (h0 : -9223372036854775807 ≤ n) (h1 : n ≤ 9223372036854775807) (w : World) :
    Calls Tryd.prog 85 #[.int .i64 n, .int .i64 d] w fun e w' => e = .returned (.int .i64 (n / d)) ∧ w = w' := by
  have hb := floor_bd n d hd h0 h1
  rcases Int.lt_or_le n 0 with hn | hn
  · by_cases hm : n.tmod d = 0
    · have E' := Lib.hid (floor_evn n d hd hn hm)
      have hm1 : (n.tmod d == 0) = true := by simp [hm]
      have hm2 : (n.tmod d != 0) = false := by simp [hm]
      clear hb hm
      go_enter Tryd.func85, Tryd.ntmps85
      go_wp2
      go_ret; exact ⟨ret_int E'.out, rfl⟩
    · have E := floor_rst n d hd hn hm
      have b1 : -9223372036854775807 ≤ n.tdiv d - 1 ∧ n.tdiv d - 1 ≤ 9223372036854775807 := by omega
      have E' := Lib.hid E
      have hm1 : (n.tmod d == 0) = false := by simp [hm]
      have hm2 : (n.tmod d != 0) = true := by simp [hm]
      clear E hb hm
      go_enter Tryd.func85, Tryd.ntmps85
      go_wp2
      go_ret; exact ⟨ret_int E'.out, rfl⟩
  · have hr := Int.emod_nonneg n (show d ≠ 0 by omega)
    go_enter Tryd.func85, Tryd.ntmps85
    go_wp2
    all_goals (go_ret; exact ⟨rfl, rfl⟩)

set_option maxHeartbeats 1000000 in
theorem rsneg_any (lo hi : Int) (h0 : -9223372036854775807 ≤ lo ∧ lo ≤ 9223372036854775807) (h1 : -9223372036854775807 ≤ hi ∧ hi ≤ 9223372036854775807) (w : World) :
    Calls Tryd.prog 66 #[.agg #[.int .i64 lo, .int .i64 hi]] w fun e w' => e = .returned (.agg #[.int .i64 (-hi), .int .i64 (-lo)]) ∧ Below w.heap.size w w' := by
  have SX := (Slot2.new w (.int .i64 lo) (.int .i64 hi) 23).alloc (.cells #[.int .i64 0, .int .i64 0] 23)
  obtain ⟨_, a0, a1, _, _⟩ := SX
  obtain ⟨i0, i1⟩ := h0
  obtain ⟨j0, j1⟩ := h1
  go_enter Tryd.func66, Tryd.ntmps66
  go_wp2_with fail
  refine bodyPost_ret (v := .agg #[.int .i64 (-hi), .int .i64 (-lo)]) (by simp [results, Tryd.results66, go_sem]) rfl ⟨rfl, by go_grown⟩
end Go.Proofs.YtnjedigjabijcaaDoor

namespace Go.Proofs.YtnjedigjabijcaaDoor
open Go Go.RowKit

theorem half_min (a : Int) : quarter (min a (180000000 - a)) = halfT a := by
  unfold halfT
  by_cases c : 90000000 < a
  · rw [if_pos c, show min a (180000000 - a) = 180000000 - a by omega]
  · rw [if_neg c, show min a (180000000 - a) = a by omega]
set_option maxHeartbeats 1000000 in
/-- The reference's sine of an angle of the first two quarters. -/
theorem rsine_half (a : Int) (h0 : 0 ≤ a) (h1 : a < 180000000) (w : World) :
    Calls Tryd.prog 48 #[.int .i64 a] w fun e w' => e = .returned (.agg #[.int .i64 (halfT a).1, .int .i64 (halfT a).2]) ∧ Below w.heap.size w w' := by
  have e0 : a % 360000000 = a := Int.emod_eq_of_lt h0 (by omega)
  have E := Lib.hid (half_min a)
  have S0 := Slot2.new w (.int .i64 0) (.int .i64 0) 23
  have k0 := alloc_below w (.cells #[.int .i64 0, .int .i64 0] 23)
  go_enter Tryd.func48, Tryd.ntmps48
  go_wp2_with fail
  refine (steep_any (min a (180000000 - a)) (by omega) (by omega) _).mono ?_
  rw [E.out]
  rintro e w1 ⟨rfl, hB⟩
  have S1 := S0.below hB S0.lies
  have SF := (S1.set0 (.int .i64 (halfT a).1)).set1 (.int .i64 (halfT a).2)
  have HB := Lib.hid (((blw_next k0 hB).setCell (p := ⟨w.heap.size, 0, none⟩) (Nat.le_refl _) (.int .i64 (halfT a).1)).setCell (p := ⟨w.heap.size, 1, none⟩) (Nat.le_refl _) (.int .i64 (halfT a).2))
  obtain ⟨_, r0, r1, f0, f1⟩ := S1
  clear S0 k0 hB E e0
  go_wp2_with fail
  refine bodyPost_ret (v := .agg #[.int .i64 (halfT a).1, .int .i64 (halfT a).2]) (by simp [results, Tryd.results48, go_sem, SF.cell0, SF.cell1]) rfl ⟨rfl, HB.out⟩
set_option maxHeartbeats 1000000 in
/-- The reference's sine of any angle. -/
theorem rsine_any (a : Int) (_h0 : -9000000000 ≤ a) (_h1 : a ≤ 9000000000) (w : World) :
    Calls Tryd.prog 48 #[.int .i64 a] w fun e w' => e = .returned (.agg #[.int .i64 (sineE a).1, .int .i64 (sineE a).2]) ∧ Below w.heap.size w w' := by
  have n1 := norm_lo a
  have n2 := norm_eq a
  have S0 := Slot2.new w (.int .i64 0) (.int .i64 0) 23
  have k0 := alloc_below w (.cells #[.int .i64 0, .int .i64 0] 23)
  by_cases hc : 180000000 ≤ a % 360000000
  · have hb := halfT_top (a % 360000000 - 180000000) (by omega) (by omega)
    have E := Lib.hid (sineE_neg a hc)
    go_enter Tryd.func48, Tryd.ntmps48
    go_wp2_with fail
    refine (rsine_half _ (by omega) (by omega) _).mono ?_
    rintro e w1 ⟨rfl, hB1⟩
    have S1 := S0.below hB1 S0.lies
    have k1 := blw_next k0 hB1
    clear S0 k0 hB1
    go_wp2_with fail
    refine (rsneg_any _ _ (by omega) (by omega) _).mono ?_
    rintro e w2 ⟨rfl, hB2⟩
    have S2 := S1.below hB2 S1.lies
    have k2 := blw_next k1 hB2
    have S3 := (S2.set0 (.int .i64 (-(halfT (a % 360000000 - 180000000)).2))).set1 (.int .i64 (-(halfT (a % 360000000 - 180000000)).1))
    have HB := Lib.hid ((k2.setCell (p := ⟨w.heap.size, 0, none⟩) (Nat.le_refl _) (.int .i64 (-(halfT (a % 360000000 - 180000000)).2))).setCell (p := ⟨w.heap.size, 1, none⟩) (Nat.le_refl _) (.int .i64 (-(halfT (a % 360000000 - 180000000)).1)))
    obtain ⟨_, r0, r1, f0, f1⟩ := S2
    clear S1 k1 k2 hB2
    go_wp2_with fail
    refine bodyPost_ret (v := .agg #[.int .i64 (-(halfT (a % 360000000 - 180000000)).2), .int .i64 (-(halfT (a % 360000000 - 180000000)).1)]) (by simp [results, Tryd.results48, go_sem, S3.cell0, S3.cell1]) rfl ?_
    exact ⟨ret_encl (by rw [E.out]; rfl) (by rw [E.out]; rfl), HB.out⟩
  · have E := Lib.hid (sineE_pos a hc)
    have E2 := Lib.hid (half_min (a % 360000000))
    have r0 := Int.emod_nonneg a (show (360000000 : Int) ≠ 0 by decide)
    rw [E.out]
    clear E
    go_enter Tryd.func48, Tryd.ntmps48
    go_wp2_with fail
    refine (steep_any (min (a % 360000000) (180000000 - a % 360000000)) (by omega) (by omega) _).mono ?_
    rw [E2.out]
    rintro e w1 ⟨rfl, hB⟩
    have S1 := S0.below hB S0.lies
    have SF := (S1.set0 (.int .i64 (halfT (a % 360000000)).1)).set1 (.int .i64 (halfT (a % 360000000)).2)
    have HB := Lib.hid (((blw_next k0 hB).setCell (p := ⟨w.heap.size, 0, none⟩) (Nat.le_refl _) (.int .i64 (halfT (a % 360000000)).1)).setCell (p := ⟨w.heap.size, 1, none⟩) (Nat.le_refl _) (.int .i64 (halfT (a % 360000000)).2))
    obtain ⟨_, y0, y1, f0, f1⟩ := S1
    clear S0 k0 hB E2
    go_wp2_with fail
    refine bodyPost_ret (v := .agg #[.int .i64 (halfT (a % 360000000)).1, .int .i64 (halfT (a % 360000000)).2]) (by simp [results, Tryd.results48, go_sem, SF.cell0, SF.cell1]) rfl ⟨rfl, HB.out⟩
end Go.Proofs.YtnjedigjabijcaaDoor

namespace Go.Proofs.YtnjedigjabijcaaDoor
open Go Go.RowKit

set_option maxHeartbeats 1000000 in
theorem rpasses_any (lo hi b : Int) (h0 : -9000000000 ≤ lo) (h1 : lo ≤ 9000000000) (h2 : -9000000000 ≤ hi) (h3 : hi ≤ 9000000000) (h4 : 0 ≤ b) (h5 : b ≤ 300000000) (w : World) :
    Calls Tryd.prog 78 #[.int .i64 lo, .int .i64 hi, .int .i64 b] w fun e w' => e = .returned (.bool (decide ((lo - 1 - b) / 360000000 < (hi - b) / 360000000))) ∧ Below w.heap.size w w' := by
  go_enter Tryd.func78, Tryd.ntmps78
  go_wp2_with fail
  refine (rsdown_any (hi - b) 360000000 (by omega) (by omega) (by omega) _).mono ?_
  rintro e w1 ⟨rfl, rfl⟩
  go_wp2_with fail
  refine (rsdown_any (lo - 1 - b) 360000000 (by omega) (by omega) (by omega) _).mono ?_
  rintro e w2 ⟨rfl, rfl⟩
  go_wp2_with fail
  go_ret
  exact ⟨rfl, Below.refl _ _⟩
/-- Both tests ask the same. -/
theorem passR (lo hi b : Int) : decide ((lo - 1 - b) / 360000000 < (hi - b) / 360000000) = passB lo hi b := by
  unfold passB
  rw [decide_eq_decide]
  omega
theorem passT (lo hi : Int) : passB lo hi 270000000 = passB lo hi (-90000000) := by
  unfold passB
  rw [decide_eq_decide]
  omega
theorem rp_any (lo hi b : Int) (h0 : -9000000000 ≤ lo) (h1 : lo ≤ 9000000000) (h2 : -9000000000 ≤ hi) (h3 : hi ≤ 9000000000) (h4 : 0 ≤ b) (h5 : b ≤ 300000000) (w : World) :
    Calls Tryd.prog 78 #[.int .i64 lo, .int .i64 hi, .int .i64 b] w fun e w' => e = .returned (.bool (passB lo hi b)) ∧ Below w.heap.size w w' := by
  rw [← passR]
  exact rpasses_any lo hi b h0 h1 h2 h3 h4 h5 w
/-- What is known while both sines are found: the argument's cells, and that old memory is as it was. -/
def OwnA (W V : World) (A : Nat) (lo hi : Int) : Prop := Below W.heap.size W V ∧ A < W.heap.size ∧ V.cell? ⟨A, 0, none⟩ = some (.int .i64 lo) ∧ V.cell? ⟨A, 1, none⟩ = some (.int .i64 hi)
theorem OwnA.next {W V V' : World} {A : Nat} {lo hi : Int} (h : OwnA W V A lo hi) (hB : Below V.heap.size V V') : OwnA W V' A lo hi :=
  ⟨blw_next h.1 hB, h.2.1, keep_cell hB h.2.2.1 (Nat.lt_of_lt_of_le h.2.1 h.1.size), keep_cell hB h.2.2.2 (Nat.lt_of_lt_of_le h.2.1 h.1.size)⟩
theorem OwnA.lo {W V : World} {A : Nat} {lo hi : Int} (h : OwnA W V A lo hi) : V.cell? ⟨A, 0, none⟩ = some (.int .i64 lo) := h.2.2.1
theorem OwnA.hi {W V : World} {A : Nat} {lo hi : Int} (h : OwnA W V A lo hi) : V.cell? ⟨A, 1, none⟩ = some (.int .i64 hi) := h.2.2.2
theorem OwnA.below {W V : World} {A : Nat} {lo hi : Int} (h : OwnA W V A lo hi) : Below W.heap.size W V := h.1
theorem rs_alloc {V : World} {a : Addr} {v : Value} {o : Obj} (h : V.cell? a = some v) : (V.alloc o).cell? a = some v := keep_cell (alloc_below V o) h (World.block_lt_of_cell? V _ h)
theorem rs_set {V : World} {a p : Addr} {v x : Value} (h : V.cell? a = some v) (hne : p.block ≠ a.block) : (V.setCell p x).cell? a = some v := by
  rw [World.cell?_setCell_other (h := fun e => hne (by rw [e]))]
  exact h
theorem rs_drew {V : World} {a : Addr} {v : Value} (h : V.cell? a = some v) : V.drew.cell? a = some v := h
theorem rs_undrew {a w : World} (h : Below a.drew.heap.size a.drew w) : Below a.heap.size a w := ⟨h.os, h.tape, h.output, h.size, h.block⟩
theorem rs_slot {V : World} {b : Nat} {x y : Value} (h : Slot2 V b x y) : Slot2 V.drew b x y := ⟨h.1, h.2, h.3, h.4, h.5⟩
theorem Slot2.nxt {V V' : World} {b : Nat} {x y : Value} (h : Slot2 V b x y) (hB : Below V.heap.size V V') : Slot2 V' b x y := h.below hB h.lies
theorem Slot2.two {V : World} {b : Nat} {x y : Value} (h : Slot2 V b x y) (z u : Value) : Slot2 ((V.setCell ⟨b, 0, none⟩ z).setCell ⟨b, 1, none⟩ u) b z u := (h.set0 z).set1 u
theorem Slot2.off {V : World} {b c : Nat} {x y : Value} (h : Slot2 V b x y) (hne : c ≠ b) (z u : Value) : Slot2 ((V.setCell ⟨c, 0, none⟩ z).setCell ⟨c, 1, none⟩ u) b x y := (h.far _ hne z).far _ hne u
theorem rs_pair {V : World} {c d : Nat} {x y z u : Value} (_hc : Slot2 V c x y) (hd : Slot2 V d z u) (hne : c ≠ d) (p q : Value) : Slot2 ((V.setCell ⟨c, 0, none⟩ p).setCell ⟨c, 1, none⟩ q) d z u := hd.off hne p q
theorem rs_new {V : World} {d : Nat} {z u : Value} (hd : Slot2 V d z u) (o : Obj) (p q : Value) : Slot2 (((V.alloc o).setCell ⟨V.heap.size, 0, none⟩ p).setCell ⟨V.heap.size, 1, none⟩ q) d z u :=
  (hd.alloc o).off (by have := hd.lies; omega) p q
theorem rs_bset {W V : World} {B : Nat} (h : Below B W V) {b k : Nat} (hb : B ≤ b) (x : Value) : Below B W (V.setCell ⟨b, k, none⟩ x) := h.setCell hb x
theorem rs_ballo {W V : World} (h : Below W.heap.size W V) (o : Obj) : Below W.heap.size W (V.alloc o) := blw_alloc h o
theorem rs_bdrew {W V : World} (h : Below W.heap.size W V) : Below W.heap.size W V.drew := ⟨h.os, h.tape, h.output, h.size, h.block⟩
theorem rs_newAt (V : World) (b : Nat) (x y : Value) (T : TypeId) (hb : b = V.heap.size) : Slot2 (V.alloc (.cells #[x, y] T)) b x y := by
  subst hb
  exact Slot2.new V x y T
end Go.Proofs.YtnjedigjabijcaaDoor

namespace Go.Proofs.YtnjedigjabijcaaDoor
open Go Go.RowKit

set_option maxRecDepth 100000 in
set_option maxHeartbeats 40000000 in
theorem rsines_any (lo hi : Int) (h0 : -4000000000 ≤ lo) (h1 : lo ≤ 4000000000) (h2 : -4000000000 ≤ hi) (h3 : hi ≤ 4000000000) (hlh : lo ≤ hi) (w : World) :
    Calls Tryd.prog 51 #[.agg #[.int .i64 lo, .int .i64 hi]] w fun e w' => e = .returned (.agg #[.int .i64 (sinesE lo hi).1, .int .i64 (sinesE lo hi).2]) ∧ Below w.heap.size w w' := by
  have SA := (Slot2.new w (.int .i64 lo) (.int .i64 hi) 23).alloc (.cells #[.int .i64 0, .int .i64 0] 23)
  have SR := Slot2.new (w.alloc (.cells #[.int .i64 lo, .int .i64 hi] 23)) (.int .i64 0) (.int .i64 0) 23
  simp only [World.size_alloc] at SR
  have KB := Lib.hid (blw_alloc (alloc_below w (.cells #[.int .i64 lo, .int .i64 hi] 23)) (.cells #[.int .i64 0, .int .i64 0] 23))
  have QA := Lib.hid SA
  have QR := Lib.hid SR
  clear SR
  obtain ⟨lA, a0, a1, _, _⟩ := SA
  go_enter Tryd.func51, Tryd.ntmps51
  go_upto_region 1 with (fail)
  generalize (w.alloc (.cells #[.int .i64 lo, .int .i64 hi] 23)).alloc (.cells #[.int .i64 0, .int .i64 0] 23) = W at *
  have QK := Lib.hid (show OwnA W W w.heap.size lo hi from ⟨Below.refl _ _, lA, a0, a1⟩)
  go_cut [3, 4] (fun x y wx => ∃ b1 b2 : Nat, x = .pointer (some ⟨b1, 0, none⟩) ∧ y = .pointer (some ⟨b2, 0, none⟩) ∧ Below W.heap.size W wx ∧
    Slot2 wx b1 (.int .i64 (sineE lo).1) (.int .i64 (sineE lo).2) ∧ Slot2 wx b2 (.int .i64 (sineE hi).1) (.int .i64 (sineE hi).2))
  case first =>
    clear KB QA QR hlh
    go_region_held3 (fun w' => w'.cell? ⟨w.heap.size, 0, none⟩ = some (.int .i64 lo) ∧ w'.cell? ⟨w.heap.size, 1, none⟩ = some (.int .i64 hi))
      ((go_split_ands; (repeat' apply And.intro) <;> (repeat' (first | with_reducible assumption | with_reducible exact OwnA.lo QK.out | with_reducible exact OwnA.hi QK.out | with_reducible refine rs_drew ?_ | with_reducible refine rs_alloc ?_ | (with_reducible refine rs_set ?_ ?hne; case hne => (dsimp only; omega))))))
      (first
      | (go_at_call 48; refine (rsine_any _ (by omega) (by omega) _).mono ?_; rintro e wN ⟨rfl, hN⟩
         first | with_reducible replace hN := rs_undrew hN | skip
         have hsz := hN.size
         try simp only [World.size_alloc] at hsz
         have QK := Lib.hid (QK.out.next (blw_next (by repeat' (first | with_reducible exact Below.refl _ _ | with_reducible refine rs_ballo ?_ _ | with_reducible refine rs_bdrew ?_)) hN))
         first
           | (with_reducible have ZC := Lib.hid (Slot2.nxt (Slot2.alloc (Slot2.new _ (.int .i64 0) (.int .i64 0) 23) (.cells #[.int .i64 0, .int .i64 0] 23)) hN); (try simp only [World.size_alloc] at ZC); obtain ⟨_, zc0, zc1, zc2, zc3⟩ := ZC.out; with_reducible have ZD := Lib.hid (Slot2.nxt (Slot2.new _ (.int .i64 0) (.int .i64 0) 23) hN); (try simp only [World.size_alloc] at ZD); obtain ⟨_, zd0, zd1, zd2, zd3⟩ := ZD.out)
           | (with_reducible have ZC := Lib.hid ((ZD.out.alloc (.cells #[.int .i64 0, .int .i64 0] 23)).nxt hN); (try simp only [World.size_alloc] at ZC); obtain ⟨_, zc0, zc1, zc2, zc3⟩ := ZC.out; with_reducible have ZD := Lib.hid (Slot2.nxt (Slot2.new _ (.int .i64 0) (.int .i64 0) 23) hN); (try simp only [World.size_alloc] at ZD); obtain ⟨_, zd0, zd1, zd2, zd3⟩ := ZD.out)
           | (with_reducible have ZD := Lib.hid (Slot2.nxt (Slot2.new _ (.int .i64 0) (.int .i64 0) 23) hN); (try simp only [World.size_alloc] at ZD); obtain ⟨_, zd0, zd1, zd2, zd3⟩ := ZD.out; first | (with_reducible have ZC := Lib.hid ((ZC.out.alloc _).nxt hN); (try simp only [World.size_alloc] at ZC); obtain ⟨_, zc0, zc1, zc2, zc3⟩ := ZC.out) | skip)
           | (with_reducible have ZD := Lib.hid (ZD.out.nxt hN); (try simp only [World.size_alloc] at ZD); obtain ⟨_, zd0, zd1, zd2, zd3⟩ := ZD.out; first | (with_reducible have ZC := Lib.hid (ZC.out.nxt hN); (try simp only [World.size_alloc] at ZC); obtain ⟨_, zc0, zc1, zc2, zc3⟩ := ZC.out) | skip)
           | skip
         first
           | (have zdA := fun o => ZD.out.alloc o
              have zdA0 := fun o => (zdA o).cell0; have zdA1 := fun o => (zdA o).cell1; have zdA2 := fun o => (zdA o).free0; have zdA3 := fun o => (zdA o).free1
              have zdN0 := fun o p q => (rs_new ZD.out o p q).cell0; have zdN1 := fun o p q => (rs_new ZD.out o p q).cell1; have zdN2 := fun o p q => (rs_new ZD.out o p q).free0; have zdN3 := fun o p q => (rs_new ZD.out o p q).free1)
           | skip
         first
           | (have hcd := rs_pair ZC.out ZD.out (by first | omega | (simp only [World.size_alloc]; omega))
              have hdc := rs_pair ZD.out ZC.out (by first | omega | (simp only [World.size_alloc]; omega))
              have zs0 := fun p q => (hcd p q).cell0; have zs1 := fun p q => (hcd p q).cell1; have zs2 := fun p q => (hcd p q).free0; have zs3 := fun p q => (hcd p q).free1
              have zr0 := fun p q => (hdc p q).cell0; have zr1 := fun p q => (hdc p q).cell1; have zr2 := fun p q => (hdc p q).free0; have zr3 := fun p q => (hdc p q).free1)
           | skip)
      | fail)
    all_goals (go_wp2_with fail; go_meet)
    all_goals refine ⟨_, _, rfl, rfl, ?_, ?_, ?_⟩
    all_goals (repeat' (first | with_reducible exact QK.out.below | with_reducible exact ZC.out | with_reducible exact ZD.out | with_reducible exact Slot2.new _ _ _ _ | exact rs_newAt _ _ _ _ _ (by first | (simp only [World.size_alloc]; done) | (simp; done)) | with_reducible apply rs_slot | with_reducible apply rs_bdrew | with_reducible apply rs_ballo | with_reducible apply Slot2.two | with_reducible apply Slot2.off | with_reducible apply Slot2.alloc | (with_reducible refine rs_bset ?_ (by omega) _) | omega | fail))
  case rest =>
    obtain ⟨b1, b2, rfl, rfl, hB, P1, P2⟩ := hcut
    have E : Hid (endsE lo hi = (min (sineE lo).1 (sineE hi).1, max (sineE lo).2 (sineE hi).2)) := Lib.hid (by
      rcases Int.lt_or_le lo hi with c | c
      · rw [endsE_yes lo hi c]; rfl
      · obtain rfl : lo = hi := by omega
        rw [endsE_no lo lo (by omega)]
        exact Prod.ext (by simp only; omega) (by simp only; omega))
    have EQ := Lib.hid (sinesE_eq lo hi)
    have KB := Lib.hid (blw_next KB.out hB)
    have QA := Lib.hid (QA.out.nxt hB)
    have QR := Lib.hid (QR.out.nxt hB)
    clear hB QK lA a0 a1
    obtain ⟨_, x0, x1, _, _⟩ := P1
    obtain ⟨_, y0, y1, _, _⟩ := P2
    have SO := Lib.hid (Slot2.new wc (.int .i64 (min (sineE lo).1 (sineE hi).1)) (.int .i64 (max (sineE lo).2 (sineE hi).2)) 23)
    replace KB := Lib.hid (blw_alloc KB.out (.cells #[.int .i64 (min (sineE lo).1 (sineE hi).1), .int .i64 (max (sineE lo).2 (sineE hi).2)] 23))
    have la := QA.out.lies
    have lr := QR.out.lies
    replace QA := Lib.hid (QA.out.alloc (.cells #[.int .i64 (min (sineE lo).1 (sineE hi).1), .int .i64 (max (sineE lo).2 (sineE hi).2)] 23))
    replace QR := Lib.hid (QR.out.alloc (.cells #[.int .i64 (min (sineE lo).1 (sineE hi).1), .int .i64 (max (sineE lo).2 (sineE hi).2)] 23))
    obtain ⟨_, a0, a1, _, _⟩ := QA.out
    go_wp2_with fail
    refine (rp_any lo hi 90000000 (by omega) (by omega) (by omega) (by omega) (by omega) (by omega) _).mono ?_
    rintro e w1 ⟨rfl, hB1⟩
    have lo1 : wc.heap.size < w1.heap.size := (SO.out.nxt hB1).lies
    replace KB := Lib.hid (blw_next KB.out hB1)
    replace QA := Lib.hid (QA.out.nxt hB1)
    replace QR := Lib.hid (QR.out.nxt hB1)
    replace SO := Lib.hid (SO.out.nxt hB1)
    clear hB1 x0 x1 y0 y1 a0 a1
    obtain ⟨_, a0, a1, _, _⟩ := QA.out
    obtain ⟨_, s0, s1, f0, f1⟩ := SO.out
    cases hp1 : passB lo hi 90000000 with
    | true =>
      replace KB := Lib.hid (KB.out.setCell (p := ⟨wc.heap.size, 1, none⟩) (by simp only; omega) (.int .i64 100000000))
      replace QA := Lib.hid (QA.out.far ⟨wc.heap.size, 1, none⟩ (by simp only; omega) (.int .i64 100000000))
      replace QR := Lib.hid (QR.out.far ⟨wc.heap.size, 1, none⟩ (by simp only; omega) (.int .i64 100000000))
      replace SO := Lib.hid (SO.out.set1 (.int .i64 100000000))
      go_wp2_with fail
      refine (rp_any lo hi 270000000 (by omega) (by omega) (by omega) (by omega) (by omega) (by omega) _).mono ?_
      rw [passT]
      rintro e w2 ⟨rfl, hB2⟩
      replace KB := Lib.hid (blw_next KB.out hB2)
      replace QR := Lib.hid (QR.out.nxt hB2)
      replace SO := Lib.hid (SO.out.nxt hB2)
      clear hB2 QA a0 a1 s0 s1 f0 f1
      obtain ⟨_, r0, r1, g0, g1⟩ := QR.out
      obtain ⟨_, s0, s1, f0, f1⟩ := SO.out
      cases hp2 : passB lo hi (-90000000) with
      | true =>
        replace KB := Lib.hid (KB.out.setCell (p := ⟨wc.heap.size, 0, none⟩) (by simp only; omega) (.int .i64 (-100000000)))
        replace QR := Lib.hid (QR.out.far ⟨wc.heap.size, 0, none⟩ (by simp only; omega) (.int .i64 (-100000000)))
        have V : Hid (sinesE lo hi = ((-100000000), 100000000)) := Lib.hid (by rw [EQ.out, hp1, hp2, E.out]; rfl)
        go_wp2_with fail
        rw [V.out]
        have SF := QR.out.two (.int .i64 (-100000000)) (.int .i64 100000000)
        have HB := (KB.out.setCell (p := ⟨w.heap.size + 1, 0, none⟩) (by simp only; omega) (.int .i64 (-100000000))).setCell (p := ⟨w.heap.size + 1, 1, none⟩) (by simp only; omega) (.int .i64 100000000)
        refine bodyPost_ret (v := .agg #[.int .i64 (-100000000), .int .i64 100000000]) (by simp [results, Tryd.results51, go_sem, SF.cell0, SF.cell1]) rfl ⟨rfl, HB⟩
      | false =>
        have V : Hid (sinesE lo hi = ((min (sineE lo).1 (sineE hi).1), 100000000)) := Lib.hid (by rw [EQ.out, hp1, hp2, E.out]; rfl)
        go_wp2_with fail
        rw [V.out]
        have SF := QR.out.two (.int .i64 (min (sineE lo).1 (sineE hi).1)) (.int .i64 100000000)
        have HB := (KB.out.setCell (p := ⟨w.heap.size + 1, 0, none⟩) (by simp only; omega) (.int .i64 (min (sineE lo).1 (sineE hi).1))).setCell (p := ⟨w.heap.size + 1, 1, none⟩) (by simp only; omega) (.int .i64 100000000)
        refine bodyPost_ret (v := .agg #[.int .i64 (min (sineE lo).1 (sineE hi).1), .int .i64 100000000]) (by simp [results, Tryd.results51, go_sem, SF.cell0, SF.cell1]) rfl ⟨rfl, HB⟩
    | false =>
      go_wp2_with fail
      refine (rp_any lo hi 270000000 (by omega) (by omega) (by omega) (by omega) (by omega) (by omega) _).mono ?_
      rw [passT]
      rintro e w2 ⟨rfl, hB2⟩
      replace KB := Lib.hid (blw_next KB.out hB2)
      replace QR := Lib.hid (QR.out.nxt hB2)
      replace SO := Lib.hid (SO.out.nxt hB2)
      clear hB2 QA a0 a1 s0 s1 f0 f1
      obtain ⟨_, r0, r1, g0, g1⟩ := QR.out
      obtain ⟨_, s0, s1, f0, f1⟩ := SO.out
      cases hp2 : passB lo hi (-90000000) with
      | true =>
        replace KB := Lib.hid (KB.out.setCell (p := ⟨wc.heap.size, 0, none⟩) (by simp only; omega) (.int .i64 (-100000000)))
        replace QR := Lib.hid (QR.out.far ⟨wc.heap.size, 0, none⟩ (by simp only; omega) (.int .i64 (-100000000)))
        have V : Hid (sinesE lo hi = ((-100000000), (max (sineE lo).2 (sineE hi).2))) := Lib.hid (by rw [EQ.out, hp1, hp2, E.out]; rfl)
        go_wp2_with fail
        rw [V.out]
        have SF := QR.out.two (.int .i64 (-100000000)) (.int .i64 (max (sineE lo).2 (sineE hi).2))
        have HB := (KB.out.setCell (p := ⟨w.heap.size + 1, 0, none⟩) (by simp only; omega) (.int .i64 (-100000000))).setCell (p := ⟨w.heap.size + 1, 1, none⟩) (by simp only; omega) (.int .i64 (max (sineE lo).2 (sineE hi).2))
        refine bodyPost_ret (v := .agg #[.int .i64 (-100000000), .int .i64 (max (sineE lo).2 (sineE hi).2)]) (by simp [results, Tryd.results51, go_sem, SF.cell0, SF.cell1]) rfl ⟨rfl, HB⟩
      | false =>
        have V : Hid (sinesE lo hi = ((min (sineE lo).1 (sineE hi).1), (max (sineE lo).2 (sineE hi).2))) := Lib.hid (by rw [EQ.out, hp1, hp2, E.out]; rfl)
        go_wp2_with fail
        rw [V.out]
        have SF := QR.out.two (.int .i64 (min (sineE lo).1 (sineE hi).1)) (.int .i64 (max (sineE lo).2 (sineE hi).2))
        have HB := (KB.out.setCell (p := ⟨w.heap.size + 1, 0, none⟩) (by simp only; omega) (.int .i64 (min (sineE lo).1 (sineE hi).1))).setCell (p := ⟨w.heap.size + 1, 1, none⟩) (by simp only; omega) (.int .i64 (max (sineE lo).2 (sineE hi).2))
        refine bodyPost_ret (v := .agg #[.int .i64 (min (sineE lo).1 (sineE hi).1), .int .i64 (max (sineE lo).2 (sineE hi).2)]) (by simp [results, Tryd.results51, go_sem, SF.cell0, SF.cell1]) rfl ⟨rfl, HB⟩
end Go.Proofs.YtnjedigjabijcaaDoor

namespace Go.Proofs.YtnjedigjabijcaaDoor
open Go Go.RowKit

def angB (a : Int) : Bool := decide (-3600000000 ≤ a) && decide (a ≤ 3600000000)
theorem angB_yes {a : Int} (h : angB a = true) : -3600000000 ≤ a ∧ a ≤ 3600000000 := by
  unfold angB at h
  simp only [Bool.and_eq_true, decide_eq_true_eq] at h
  exact h
theorem rangled_any (a : Int) (w : World) :
    Calls Tryd.prog 47 #[.int .i64 a] w fun e w' => e = .returned (.bool (angB a)) ∧ w = w' := by
  unfold angB
  by_cases h1 : -3600000000 ≤ a
  · by_cases h2 : a ≤ 3600000000
    all_goals
      go_enter Tryd.func47, Tryd.ntmps47
      go_wp2
      go_ret
      exact ⟨ret_bool (by simp [h1, h2]), rfl⟩
  · go_enter Tryd.func47, Tryd.ntmps47
    go_wp2
    go_ret
    exact ⟨ret_bool (by simp; omega), rfl⟩
theorem inB_ang (a : Int) : inB a a (-3600000000) 3600000000 = angB a := by
  unfold inB angB
  simp
set_option maxRecDepth 100000 in
set_option maxHeartbeats 4000000 in
theorem rSin_any (a : Int) (w : World) :
    Calls Tryd.prog 15 #[.int .i64 a] w fun e w' => e = .returned (pairV (sinOfE a a).1 (sinOfE a a).2) ∧ Below w.heap.size w w' := by
  have S0 := Slot2.new w (.int .i64 0) (.int .i64 0) 23
  have k0 := alloc_below w (.cells #[.int .i64 0, .int .i64 0] 23)
  cases hg : angB a with
  | false =>
    have V : Hid (sinOfE a a = ((0, 0), 7)) := Lib.hid (by unfold sinOfE; rw [inB_ang, hg]; rfl)
    have K0 := Lib.hid k0
    go_enter Tryd.func15, Tryd.ntmps15
    go_wp2_with fail
    refine (rangled_any a _).mono ?_
    rw [hg]
    rintro e w1 ⟨rfl, rfl⟩
    go_wp2_with fail
    rw [V.out]
    exact bodyPost_ret (v := pairV (0, 0) 7) (by simp [results, Tryd.results15, go_sem, S0.cell0, S0.cell1]; exact rfl) rfl ⟨rfl, K0.out⟩
  | true =>
    obtain ⟨g1, g2⟩ := angB_yes hg
    have V : Hid (sinOfE a a = (sineE a, 0)) := Lib.hid (by unfold sinOfE; rw [inB_ang, hg, sinesE_one]; rfl)
    go_enter Tryd.func15, Tryd.ntmps15
    go_wp2_with fail
    refine (rangled_any a _).mono ?_
    rw [hg]
    rintro e w1 ⟨rfl, rfl⟩
    go_wp2_with fail
    refine (rsine_any a (by omega) (by omega) _).mono ?_
    rintro e w1 ⟨rfl, hB⟩
    have S1 := S0.nxt hB
    have HS := Lib.hid S1
    have HB := Lib.hid (blw_next k0 hB)
    obtain ⟨_, r0, r1, f0, f1⟩ := S1
    clear S0 k0 hB
    go_wp2_with fail
    rw [V.out]
    have SF := HS.out.two (.int .i64 (sineE a).1) (.int .i64 (sineE a).2)
    exact bodyPost_ret (v := pairV (sineE a) 0) (by simp [results, Tryd.results15, go_sem, SF.cell0, SF.cell1]; exact rfl) rfl ⟨rfl, (HB.out.setCell (p := ⟨w.heap.size, 0, none⟩) (Nat.le_refl _) _).setCell (p := ⟨w.heap.size, 1, none⟩) (Nat.le_refl _) _⟩
set_option maxRecDepth 100000 in
set_option maxHeartbeats 4000000 in
theorem rCos_any (a : Int) (w : World) :
    Calls Tryd.prog 17 #[.int .i64 a] w fun e w' => e = .returned (pairV (cosOfE a a).1 (cosOfE a a).2) ∧ Below w.heap.size w w' := by
  have S0 := Slot2.new w (.int .i64 0) (.int .i64 0) 23
  have k0 := alloc_below w (.cells #[.int .i64 0, .int .i64 0] 23)
  cases hg : angB a with
  | false =>
    have V : Hid (cosOfE a a = ((0, 0), 7)) := Lib.hid (by unfold cosOfE; rw [inB_ang, hg]; rfl)
    have K0 := Lib.hid k0
    go_enter Tryd.func17, Tryd.ntmps17
    go_wp2_with fail
    refine (rangled_any a _).mono ?_
    rw [hg]
    rintro e w1 ⟨rfl, rfl⟩
    go_wp2_with fail
    rw [V.out]
    exact bodyPost_ret (v := pairV (0, 0) 7) (by simp [results, Tryd.results17, go_sem, S0.cell0, S0.cell1]; exact rfl) rfl ⟨rfl, K0.out⟩
  | true =>
    obtain ⟨g1, g2⟩ := angB_yes hg
    have V : Hid (cosOfE a a = (sineE (a + 90000000), 0)) := Lib.hid (by unfold cosOfE; rw [inB_ang, hg, sinesE_one]; rfl)
    go_enter Tryd.func17, Tryd.ntmps17
    go_wp2_with fail
    refine (rangled_any a _).mono ?_
    rw [hg]
    rintro e w1 ⟨rfl, rfl⟩
    go_wp2_with fail
    refine (rsine_any (a + 90000000) (by omega) (by omega) _).mono ?_
    rintro e w1 ⟨rfl, hB⟩
    have S1 := S0.nxt hB
    have HS := Lib.hid S1
    have HB := Lib.hid (blw_next k0 hB)
    obtain ⟨_, r0, r1, f0, f1⟩ := S1
    clear S0 k0 hB
    go_wp2_with fail
    rw [V.out]
    have SF := HS.out.two (.int .i64 (sineE (a + 90000000)).1) (.int .i64 (sineE (a + 90000000)).2)
    exact bodyPost_ret (v := pairV (sineE (a + 90000000)) 0) (by simp [results, Tryd.results17, go_sem, SF.cell0, SF.cell1]; exact rfl) rfl ⟨rfl, (HB.out.setCell (p := ⟨w.heap.size, 0, none⟩) (Nat.le_refl _) _).setCell (p := ⟨w.heap.size, 1, none⟩) (Nat.le_refl _) _⟩
end Go.Proofs.YtnjedigjabijcaaDoor

namespace Go.Proofs.YtnjedigjabijcaaDoor
open Go Go.RowKit

set_option maxRecDepth 100000 in
set_option maxHeartbeats 4000000 in
theorem rSinOf_any (lo hi : Int) (w : World) :
    Calls Tryd.prog 19 #[.agg #[.int .i64 lo, .int .i64 hi]] w fun e w' => e = .returned (pairV (sinOfE lo hi).1 (sinOfE lo hi).2) ∧ Below w.heap.size w w' := by
  have SA := (Slot2.new w (.int .i64 lo) (.int .i64 hi) 23).alloc (.cells #[.int .i64 0, .int .i64 0] 23)
  have SR := Slot2.new (w.alloc (.cells #[.int .i64 lo, .int .i64 hi] 23)) (.int .i64 0) (.int .i64 0) 23
  simp only [World.size_alloc] at SR
  have KB := Lib.hid (blw_alloc (alloc_below w (.cells #[.int .i64 lo, .int .i64 hi] 23)) (.cells #[.int .i64 0, .int .i64 0] 23))
  have QR := Lib.hid SR
  clear SR
  obtain ⟨_, a0, a1, _, _⟩ := SA
  by_cases hok : lo ≤ hi ∧ angB lo = true ∧ angB hi = true
  · obtain ⟨h1, h2, h3⟩ := hok
    obtain ⟨g1, g2⟩ := angB_yes h2
    obtain ⟨g3, g4⟩ := angB_yes h3
    have V : Hid (sinOfE lo hi = (sinesE lo hi, 0)) := Lib.hid (by unfold sinOfE; rw [if_pos (by unfold inB; simp; omega)])
    go_enter Tryd.func19, Tryd.ntmps19
    go_wp2_with (go_at_call 47; refine (rangled_any _ _).mono ?_; rintro e w' ⟨rfl, rfl⟩)
    refine (rsines_any lo hi (by omega) (by omega) (by omega) (by omega) (by omega) _).mono ?_
    rintro e w1 ⟨rfl, hB⟩
    have S1 := QR.out.nxt hB
    have SF := S1.two (.int .i64 (sinesE lo hi).1) (.int .i64 (sinesE lo hi).2)
    have HB := Lib.hid (((blw_next KB.out hB).setCell (p := ⟨w.heap.size + 1, 0, none⟩) (by simp only; omega) (.int .i64 (sinesE lo hi).1)).setCell (p := ⟨w.heap.size + 1, 1, none⟩) (by simp only; omega) (.int .i64 (sinesE lo hi).2))
    obtain ⟨_, r0, r1, f0, f1⟩ := S1
    clear hB KB QR a0 a1
    go_wp2_with fail
    rw [V.out]
    exact bodyPost_ret (v := pairV (sinesE lo hi) 0) (by simp [results, Tryd.results19, go_sem, SF.cell0, SF.cell1]; exact rfl) rfl ⟨rfl, HB.out⟩
  · have V : Hid (sinOfE lo hi = ((0, 0), 7)) := Lib.hid (by
      unfold sinOfE
      rw [if_neg]
      intro hb
      obtain ⟨i1, i2, i3⟩ := inB_yes hb
      exact hok ⟨i2, by unfold angB; simp; omega, by unfold angB; simp; omega⟩)
    have hc : ¬ lo ≤ hi ∨ (lo ≤ hi ∧ angB lo = false) ∨ (lo ≤ hi ∧ angB lo = true ∧ angB hi = false) := by
      by_cases c : lo ≤ hi
      · cases d : angB lo
        · exact Or.inr (Or.inl ⟨c, rfl⟩)
        · cases e : angB hi
          · exact Or.inr (Or.inr ⟨c, rfl, rfl⟩)
          · exact absurd ⟨c, d, e⟩ hok
      · exact Or.inl c
    clear hok
    rcases hc with c | ⟨c, d⟩ | ⟨c, d, e⟩
    all_goals
      go_enter Tryd.func19, Tryd.ntmps19
      go_wp2_with (go_at_call 47; refine (rangled_any _ _).mono ?_; rintro e w' ⟨rfl, rfl⟩)
    all_goals rw [V.out]
    all_goals exact bodyPost_ret (v := pairV (0, 0) 7) (by simp [results, Tryd.results19, go_sem, QR.out.cell0, QR.out.cell1]; exact rfl) rfl ⟨rfl, KB.out⟩
set_option maxRecDepth 100000 in
set_option maxHeartbeats 4000000 in
theorem rCosOf_any (lo hi : Int) (w : World) :
    Calls Tryd.prog 21 #[.agg #[.int .i64 lo, .int .i64 hi]] w fun e w' => e = .returned (pairV (cosOfE lo hi).1 (cosOfE lo hi).2) ∧ Below w.heap.size w w' := by
  have SA := (Slot2.new w (.int .i64 lo) (.int .i64 hi) 23).alloc (.cells #[.int .i64 0, .int .i64 0] 23)
  have SR := Slot2.new (w.alloc (.cells #[.int .i64 lo, .int .i64 hi] 23)) (.int .i64 0) (.int .i64 0) 23
  simp only [World.size_alloc] at SR
  have KB := Lib.hid (blw_alloc (alloc_below w (.cells #[.int .i64 lo, .int .i64 hi] 23)) (.cells #[.int .i64 0, .int .i64 0] 23))
  have QR := Lib.hid SR
  clear SR
  obtain ⟨_, a0, a1, _, _⟩ := SA
  by_cases hok : lo ≤ hi ∧ angB lo = true ∧ angB hi = true
  · obtain ⟨h1, h2, h3⟩ := hok
    obtain ⟨g1, g2⟩ := angB_yes h2
    obtain ⟨g3, g4⟩ := angB_yes h3
    have V : Hid (cosOfE lo hi = (sinesE (lo + 90000000) (hi + 90000000), 0)) := Lib.hid (by unfold cosOfE; rw [if_pos (by unfold inB; simp; omega)])
    go_enter Tryd.func21, Tryd.ntmps21
    go_wp2_with (go_at_call 47; refine (rangled_any _ _).mono ?_; rintro e w' ⟨rfl, rfl⟩)
    refine (rsines_any (lo + 90000000) (hi + 90000000) (by omega) (by omega) (by omega) (by omega) (by omega) _).mono ?_
    rintro e w1 ⟨rfl, hB⟩
    have S1 := QR.out.nxt hB
    have SF := S1.two (.int .i64 (sinesE (lo + 90000000) (hi + 90000000)).1) (.int .i64 (sinesE (lo + 90000000) (hi + 90000000)).2)
    have HB := Lib.hid (((blw_next KB.out hB).setCell (p := ⟨w.heap.size + 1, 0, none⟩) (by simp only; omega) (.int .i64 (sinesE (lo + 90000000) (hi + 90000000)).1)).setCell (p := ⟨w.heap.size + 1, 1, none⟩) (by simp only; omega) (.int .i64 (sinesE (lo + 90000000) (hi + 90000000)).2))
    obtain ⟨_, r0, r1, f0, f1⟩ := S1
    clear hB KB QR a0 a1
    go_wp2_with fail
    rw [V.out]
    exact bodyPost_ret (v := pairV (sinesE (lo + 90000000) (hi + 90000000)) 0) (by simp [results, Tryd.results21, go_sem, SF.cell0, SF.cell1]; exact rfl) rfl ⟨rfl, HB.out⟩
  · have V : Hid (cosOfE lo hi = ((0, 0), 7)) := Lib.hid (by
      unfold cosOfE
      rw [if_neg]
      intro hb
      obtain ⟨i1, i2, i3⟩ := inB_yes hb
      exact hok ⟨i2, by unfold angB; simp; omega, by unfold angB; simp; omega⟩)
    have hc : ¬ lo ≤ hi ∨ (lo ≤ hi ∧ angB lo = false) ∨ (lo ≤ hi ∧ angB lo = true ∧ angB hi = false) := by
      by_cases c : lo ≤ hi
      · cases d : angB lo
        · exact Or.inr (Or.inl ⟨c, rfl⟩)
        · cases e : angB hi
          · exact Or.inr (Or.inr ⟨c, rfl, rfl⟩)
          · exact absurd ⟨c, d, e⟩ hok
      · exact Or.inl c
    clear hok
    rcases hc with c | ⟨c, d⟩ | ⟨c, d, e⟩
    all_goals
      go_enter Tryd.func21, Tryd.ntmps21
      go_wp2_with (go_at_call 47; refine (rangled_any _ _).mono ?_; rintro e w' ⟨rfl, rfl⟩)
    all_goals rw [V.out]
    all_goals exact bodyPost_ret (v := pairV (0, 0) 7) (by simp [results, Tryd.results21, go_sem, QR.out.cell0, QR.out.cell1]; exact rfl) rfl ⟨rfl, KB.out⟩
end Go.Proofs.YtnjedigjabijcaaDoor
