import Derived.Test.YtnjedigjabijcaaDoorSine3
import Derived.Deep.QuietTactic
import Derived.BigQuiet
namespace Go.Proofs.YtnjedigjabijcaaDoor
open Go Go.RowKit

theorem floor_neg (n d : Int) (hn : n < 0) (hd : 1 ≤ d) : (if n.tmod d < 0 then n.tdiv d - 1 else n.tdiv d) = n / d := by
  have h1 := Int.mul_tdiv_add_tmod n d
  have h2 := Int.mul_ediv_add_emod n d
  have h3 := Int.lt_tmod_of_pos n (show 0 < d by omega)
  have h4 : n.tmod d ≤ 0 := by
    have a := Int.tmod_nonneg d (show 0 ≤ -n by omega)
    rw [Int.neg_tmod] at a; omega
  have h5 := Int.emod_nonneg n (show d ≠ 0 by omega)
  have h6 := Int.emod_lt_of_pos n (show 0 < d by omega)
  split
  · rename_i h
    apply Int.le_antisymm
    · apply Int.le_ediv_of_mul_le (by omega)
      have e : d * (n.tdiv d - 1) = d * n.tdiv d - d := by rw [Int.mul_sub, Int.mul_one]
      rw [Int.mul_comm, e]; omega
    · apply Int.le_of_lt_add_one
      apply Int.ediv_lt_of_lt_mul (by omega)
      rw [Int.mul_comm, show n.tdiv d - 1 + 1 = n.tdiv d by omega]; omega
  · have h0 : n.tmod d = 0 := by omega
    rw [h0, Int.add_zero] at h1
    have : n = n.tdiv d * d := by rw [Int.mul_comm]; exact h1.symm
    conv => rhs; rw [this]
    rw [Int.mul_ediv_cancel _ (by omega)]

theorem floor_bd (n d : Int) (hd : 1 ≤ d) (h0 : -9223372036854775807 ≤ n) (h1 : n ≤ 9223372036854775807) : -9223372036854775807 ≤ n / d ∧ n / d ≤ 9223372036854775807 := by
  rcases Int.lt_or_le n 0 with h | h
  · have a : n / d < 0 := Int.ediv_lt_of_lt_mul (by omega) (by omega)
    have b : n ≤ n / d := by
      apply Int.le_ediv_of_mul_le (by omega)
      have : n * d ≤ n * 1 := Int.mul_le_mul_of_nonpos_left (by omega) (by omega)
      omega
    omega
  · have := Int.ediv_le_self d h
    have := Int.ediv_nonneg h (show 0 ≤ d by omega)
    omega

set_option maxHeartbeats 400000 in
theorem down_any (n d : Int) (hd : 1 ≤ d) (h0 : -9223372036854775807 ≤ n) (h1 : n ≤ 9223372036854775807) (w : World) :
    Calls Tryd.prog 83 #[.int .i64 n, .int .i64 d] w fun e w' => e = .returned (.int .i64 (n / d)) ∧ w = w' := by
  have hb := floor_bd n d hd h0 h1
  rcases Int.lt_or_le n 0 with hn | hn
  · have E := floor_neg n d hn hd
    by_cases hm : n.tmod d < 0
    · rw [if_pos hm] at E
      have b1 : -9223372036854775807 ≤ n.tdiv d - 1 ∧ n.tdiv d - 1 ≤ 9223372036854775807 := by omega
      have E' := Lib.hid E
      clear E hb
      go_enter Tryd.func83, Tryd.ntmps83
      go_wp2
      go_ret; exact ⟨ret_int E'.out, rfl⟩
    · rw [if_neg hm] at E
      have E' := Lib.hid E
      clear E hb
      go_enter Tryd.func83, Tryd.ntmps83
      go_wp2
      go_ret; exact ⟨ret_int E'.out, rfl⟩
  · have hr := Int.emod_nonneg n (show d ≠ 0 by omega)
    go_enter Tryd.func83, Tryd.ntmps83
    go_wp2
    all_goals (go_ret; exact ⟨rfl, rfl⟩)

set_option maxHeartbeats 400000 in
theorem up_any (n d : Int) (hd : 1 ≤ d) (h0 : -9223372036854775807 ≤ n) (h1 : n ≤ 9223372036854775807) (w : World) :
    Calls Tryd.prog 84 #[.int .i64 n, .int .i64 d] w fun e w' => e = .returned (.int .i64 (-((-n) / d))) ∧ w = w' := by
  have hb := floor_bd (-n) d hd (by omega) (by omega)
  go_enter Tryd.func84, Tryd.ntmps84
  go_wp2_with (go_at_call 83; refine (down_any _ _ hd (by omega) (by omega) _).mono ?_; rintro e w' ⟨rfl, rfl⟩)
  go_ret
  exact ⟨rfl, rfl⟩

/-- An enclosure with ends from a to b. -/
def inB (lo hi a b : Int) : Bool := decide (a ≤ lo) && decide (lo ≤ hi) && decide (hi ≤ b)

theorem ret_bool {a b : Bool} (h : a = b) : Ending.returned (.bool a) = .returned (.bool b) := by rw [h]

set_option maxHeartbeats 400000 in
theorem within_any (lo hi a b : Int) (w : World) :
    Calls Tryd.prog 49 #[.agg #[.int .i64 lo, .int .i64 hi], .int .i64 a, .int .i64 b] w fun e w' => e = .returned (.bool (inB lo hi a b)) ∧ Below w.heap.size w w' := by
  by_cases c1 : a ≤ lo
  · by_cases c2 : lo ≤ hi
    · by_cases c3 : hi ≤ b
      all_goals
        go_enter Tryd.func49, Tryd.ntmps49
        go_wp2
        go_ret
        exact ⟨ret_bool (by unfold inB; simp [*]), by go_grown⟩
    · go_enter Tryd.func49, Tryd.ntmps49
      go_wp2
      go_ret
      exact ⟨ret_bool (by unfold inB; rw [decide_eq_false (by omega : ¬ lo ≤ hi)]; simp), by go_grown⟩
  · go_enter Tryd.func49, Tryd.ntmps49
    go_wp2
    go_ret
    exact ⟨ret_bool (by unfold inB; rw [decide_eq_false (by omega : ¬ a ≤ lo)]; simp), by go_grown⟩

theorem below_drewN {B : Nat} {a w : World} (h : Below B a w) (n : Nat) : Below B a (w.drewN n) := ⟨h.os, h.tape, h.output, h.size, h.block⟩

/-- Whether an angle that differs from b by whole turns is from lo to hi. -/
def passB (lo hi b : Int) : Bool := decide (b + 360000000 * (-((-(lo - b)) / 360000000)) ≤ hi)

set_option maxHeartbeats 400000 in
theorem passes_any (lo hi b : Int) (h0 : -9000000000 ≤ lo) (h1 : lo ≤ 9000000000) (h2 : -9000000000 ≤ b) (h3 : b ≤ 9000000000) (w : World) :
    Calls Tryd.prog 77 #[.agg #[.int .i64 lo, .int .i64 hi], .int .i64 b] w fun e w' => e = .returned (.bool (passB lo hi b)) ∧ Below w.heap.size w w' := by
  have E : Hid (passB lo hi b = decide (b + 360000000 * (-((-(lo - b)) / 360000000)) ≤ hi)) := rfl
  go_enter Tryd.func77, Tryd.ntmps77
  go_wp2
  go_quiet ((go_at_call 84; exact Calls.quiet_of_same ((up_any _ _ (by omega) (by omega) (by omega) _).mono fun _ _ ⟨h, h'⟩ => ⟨h, h'.symm⟩)))
  go_wp2
  go_ret
  exact ⟨ret_bool (by rw [E.out]), below_drewN (by go_grown) _⟩
end Go.Proofs.YtnjedigjabijcaaDoor
