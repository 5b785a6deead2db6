import Derived.Test.YtnjedigjabijcaaDoorSine
import Derived.Deep.Light
namespace Go.Proofs.YtnjedigjabijcaaDoor
open Go Go.RowKit

def SomePair (n : Nat) (e : Ending) : Prop := ∃ r : Int, e = .returned (.tuple #[.int .i64 (n : Int), .int .u64 r])

set_option maxHeartbeats 400000 in
theorem fraction_any (a : Int) (h0 : 0 ≤ a) (h1 : a ≤ 90000000) (w : World) :
    Calls Tryd.prog 99 #[.int .i64 a] w fun e w' => e = .returned (.int .u64 ((fracN a.toNat : Nat) : Int)) ∧ w = w' := by
  by_cases hc : 45000000 < a
  · have hr := radN_le (90000000 - a).toNat (by omega)
    have hp := prodN_le (radN (90000000 - a).toNat) (radN (90000000 - a).toNat) (by omega)
    have E : Hid (serK (prodN (radN (90000000 - a).toNat) (radN (90000000 - a).toNat)) 20 (20 / 2) = fracN a.toNat) := by
      unfold fracN; rw [if_pos (by omega), show 90000000 - a.toNat = (90000000 - a).toNat by omega]; exact rfl
    go_enter Tryd.func99, Tryd.ntmps99
    go_wp2_with (first | (go_at_call 115; refine (radians_any _ (by omega) (by omega) _).mono ?_; rintro e w' ⟨rfl, rfl⟩) | (go_at_call 117; refine (product_any _ _ (by omega) (by omega) _).mono ?_; rintro e w' ⟨rfl, rfl⟩) | (go_at_call 116; refine (series_any _ 20 (by omega) (by omega) _).mono ?_; rintro e w' ⟨rfl, rfl⟩))
    go_ret
    exact ⟨ret_int (by rw [E.out]), rfl⟩
  · have hr := radN_le a.toNat (by omega)
    have hp := prodN_le (radN a.toNat) (radN a.toNat) (by omega)
    have hs := serK_le (prodN (radN a.toNat) (radN a.toNat)) 21 (21 / 2)
    have E : Hid (prodN (radN a.toNat) (serK (prodN (radN a.toNat) (radN a.toNat)) 21 (21 / 2)) = fracN a.toNat) := by
      unfold fracN; rw [if_neg (by omega)]; exact rfl
    go_enter Tryd.func99, Tryd.ntmps99
    go_wp2_with (first | (go_at_call 115; refine (radians_any _ (by omega) (by omega) _).mono ?_; rintro e w' ⟨rfl, rfl⟩) | (go_at_call 117; refine (product_any _ _ (by omega) (by omega) _).mono ?_; rintro e w' ⟨rfl, rfl⟩) | (go_at_call 116; refine (series_any _ 21 (by omega) (by omega) _).mono ?_; rintro e w' ⟨rfl, rfl⟩))
    go_ret
    exact ⟨ret_int (by rw [E.out]), rfl⟩

theorem hun_eq (f : Nat) (hf : f ≤ 9223372036854775808) :
    wrap64 (bits .or .u64 ((f : Int) * 100000000 / 18446744073709551616 * 2) ((f : Int) * 100000000 % 18446744073709551616 / 9223372036854775808)) = ((hunN f : Nat) : Int) := by
  have e := u64_or_prod f 100000000 (by omega)
  rw [IntWalk.u64_in _ (by omega)] at e
  have h := hunN_le f hf
  have e2 : prodN f 100000000 = hunN f := rfl
  rw [e2] at e
  rw [show ((100000000 : Nat) : Int) = 100000000 from rfl] at e
  rw [e]
  exact IntWalk.wrap64_in _ (by omega)

theorem ret_pair {k l : IntKind} {a b c : Int} (h : a = b) : Ending.returned (.tuple #[.int k a, .int l c]) = .returned (.tuple #[.int k b, .int l c]) := by rw [h]

set_option maxHeartbeats 400000 in
theorem hundred_any (f : Nat) (hf : f ≤ 9223372036854775808) (w : World) :
    Calls Tryd.prog 98 #[.int .u64 f] w fun e w' => SomePair (hunN f) e ∧ w = w' := by
  have E := Lib.hid (hun_eq f hf)
  go_enter Tryd.func98, Tryd.ntmps98
  go_wp2_with (go_at_call 114; refine (mul64_any _ _ (by omega) (by omega) (by omega) (by omega) _).mono ?_; rintro e w' ⟨rfl, rfl⟩)
  go_ret2
  exact ⟨⟨_, ret_pair E.out⟩, rfl⟩

set_option maxHeartbeats 400000 in
theorem negative_any (a b : Int) (ha : -10000000000 ≤ a ∧ a ≤ 10000000000) (hb : -10000000000 ≤ b ∧ b ≤ 10000000000) (w : World) :
    Calls Tryd.prog 60 #[.agg #[.int .i64 a, .int .i64 b]] w fun e w' => e = .returned (.agg #[.int .i64 (-b), .int .i64 (-a)]) ∧ Below w.heap.size w w' := by
  obtain ⟨ha0, ha1⟩ := ha
  obtain ⟨hb0, hb1⟩ := hb
  go_enter Tryd.func60, Tryd.ntmps60
  go_wp2
  refine bodyPost_ret (v := .agg #[.int .i64 (-b), .int .i64 (-a)]) (by simp [results, Tryd.results60, go_sem]) rfl ⟨rfl, ?_⟩
  go_grown

theorem quarter_zero : quarter 0 = (0, 0) := rfl
theorem quarter_third : quarter 30000000 = (50000000, 50000000) := rfl
theorem quarter_right : quarter 90000000 = (100000000, 100000000) := rfl
theorem quarter_else (a : Int) (h1 : a ≠ 0) (h2 : a ≠ 30000000) (h3 : a ≠ 90000000) : quarter a = ((hunN (fracN a.toNat) : Int), (hunN (fracN a.toNat) : Int) + 1) := by
  unfold quarter; rw [if_neg h1, if_neg h2, if_neg h3]
theorem ret_encl {a b c d : Int} (h1 : a = c) (h2 : b = d) : Ending.returned (.agg #[.int .i64 a, .int .i64 b]) = .returned (.agg #[.int .i64 c, .int .i64 d]) := by rw [h1, h2]

set_option maxHeartbeats 1000000 in
/-- The sine of an angle of the first two quarters. -/
theorem sine_half (a : Int) (h0 : 0 ≤ a) (h1 : a < 180000000) (w : World) :
    Calls Tryd.prog 75 #[.int .i64 a] w fun e w' => e = .returned (.agg #[.int .i64 (halfT a).1, .int .i64 (halfT a).2]) ∧ Below w.heap.size w w' := by
  have e0 : a % 360000000 = a := Int.emod_eq_of_lt h0 (by omega)
  have hb1 := hunN_le (fracN a.toNat)
  have hf1 := fracN_le a.toNat
  have hb2 := hunN_le (fracN (180000000 - a).toNat)
  have hf2 := fracN_le (180000000 - a).toNat
  go_enter Tryd.func75, Tryd.ntmps75
  go_wp2_with (first | (go_at_call 99; refine (fraction_any _ (by omega) (by omega) _).mono ?_; rintro e w' ⟨rfl, rfl⟩) | (go_at_call 98; refine (hundred_any _ (by first | exact hf1 (by omega) | exact hf2 (by omega)) _).mono ?_; rintro e w' ⟨⟨r, rfl⟩, rfl⟩))
  all_goals clear e0
  all_goals go_returns
  all_goals refine ⟨ret_encl ?_ ?_, by go_grown⟩
  all_goals go_light
  all_goals (unfold halfT quarter; simp_all)
  all_goals (rw [if_neg (by omega)])

theorem halfT_top (a : Int) (h0 : 0 ≤ a) (h1 : a < 180000000) : -100000001 ≤ (halfT a).1 ∧ (halfT a).1 ≤ 100000001 ∧ -100000001 ≤ (halfT a).2 ∧ (halfT a).2 ≤ 100000001 := by
  have := halfT_bd a h0 (by omega); omega

theorem norm_eq (a : Int) : (a.tmod 360000000 + 360000000) % 360000000 = a % 360000000 := by
  rw [Int.add_emod_right]
  have h := Int.mul_tdiv_add_tmod a 360000000
  generalize a.tmod 360000000 = m at *
  generalize a.tdiv 360000000 = q at *
  omega
theorem norm_lo (a : Int) : 0 ≤ a.tmod 360000000 + 360000000 ∧ a.tmod 360000000 + 360000000 < 720000000 := by
  have h1 := Int.tmod_lt_of_pos a (show (0 : Int) < 360000000 by omega)
  have h2 := Int.lt_tmod_of_pos a (show (0 : Int) < 360000000 by omega)
  omega

theorem bcell {V w1 : World} (hb : Below V.heap.size V w1) : (∀ b o, b < V.heap.size → w1.cell? ⟨b, o, none⟩ = V.cell? ⟨b, o, none⟩) ∧ (∀ b o, b < V.heap.size → w1.frozen? ⟨b, o, none⟩ = V.frozen? ⟨b, o, none⟩) :=
  ⟨fun b o h => hb.cell (p := ⟨b, o, none⟩) h, fun b o h => hb.frozen (p := ⟨b, o, none⟩) h⟩

end Go.Proofs.YtnjedigjabijcaaDoor
