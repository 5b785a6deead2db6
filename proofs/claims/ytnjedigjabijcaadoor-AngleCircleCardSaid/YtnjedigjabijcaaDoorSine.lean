import Derived.Test.YtnjedigjabijcaaDoorShelfa
import Derived.Test.YtnjedigjabijcaaDoorPlain
import Derived.WalkKit
import Derived.IntWalk
import Derived.Outline
import Derived.Handy
import Derived.Lib.Hide
namespace Go.Proofs.YtnjedigjabijcaaDoor
open Go Go.RowKit

theorem ret_int {k : IntKind} {a b : Int} (h : a = b) : Ending.returned (.int k a) = .returned (.int k b) := by rw [h]

set_option maxHeartbeats 400000 in
theorem product_any (x y : Nat) (hx : x ≤ 9223372036854775808) (hy : y ≤ 9223372036854775808) (w : World) :
    Calls Tryd.prog 117 #[.int .u64 x, .int .u64 y] w fun e w' => e = .returned (.int .u64 ((prodN x y : Nat) : Int)) ∧ w = w' := by
  have hp : x * y ≤ 85070591730234615865843651857942052864 := Nat.mul_le_mul hx hy
  have E := Lib.hid (u64_or_prod x y (by omega))
  clear hp
  go_enter Tryd.func117, Tryd.ntmps117
  go_wp2_with (go_at_call 114; refine (Tryd.bits_Mul64 x y (by omega) (by omega) _).mono ?_; rintro e w' ⟨rfl, rfl⟩)
  go_ret
  exact ⟨ret_int E.out, rfl⟩

/-- bits.Mul64, its arguments as integers. -/
theorem mul64_any (x y : Int) (hx0 : 0 ≤ x) (hx : x < 18446744073709551616) (hy0 : 0 ≤ y) (hy : y < 18446744073709551616) (w : World) :
    Calls Tryd.prog 114 #[.int .u64 x, .int .u64 y] w fun e w' => e = .returned (.tuple #[.int .u64 (x * y / 18446744073709551616), .int .u64 (x * y % 18446744073709551616)]) ∧ w = w' := by
  obtain ⟨a, rfl⟩ := Int.eq_ofNat_of_zero_le hx0
  obtain ⟨b, rfl⟩ := Int.eq_ofNat_of_zero_le hy0
  refine (Tryd.bits_Mul64 a b (by omega) (by omega) w).mono ?_
  rintro e w' ⟨rfl, rfl⟩
  exact ⟨by simp, rfl⟩

set_option maxHeartbeats 400000 in
theorem radians_any (a : Int) (h0 : 0 ≤ a) (h1 : a ≤ 45000000) (w : World) :
    Calls Tryd.prog 115 #[.int .i64 a] w fun e w' => e = .returned (.int .u64 ((radN a.toNat : Nat) : Int)) ∧ w = w' := by
  obtain ⟨n, rfl⟩ := Int.eq_ofNat_of_zero_le h0
  have E := Lib.hid (u64_or_rad' n 10803064813898918630 (by omega))
  have ha : (n : Int) < 18446744073709551616 := by omega
  go_enter Tryd.func115, Tryd.ntmps115
  go_wp2_with (go_at_call 114; refine (mul64_any _ _ (by omega) (by omega) (by omega) (by omega) _).mono ?_; rintro e w' ⟨rfl, rfl⟩)
  go_ret
  exact ⟨ret_int E.out, rfl⟩

/-- One round of the series. -/
theorem ser_round (sq last j m : Nat) (hm : last - 2 * j = m) (h2 : 2 ≤ m) (hsq : sq ≤ 9223372036854775808) :
    (9223372036854775808 : Int) - ((prodN sq (serK sq last j) : Nat) : Int) / ((m : Int) * ((m : Int) - 1)) = ((serK sq last (j + 1) : Nat) : Int) := by
  have hs := serK_le sq last j
  have hp := prodN_le sq (serK sq last j) hsq
  show _ = ((9223372036854775808 - prodN sq (serK sq last j) / ((last - 2 * j) * (last - 2 * j - 1)) : Nat) : Int)
  rw [hm]
  generalize prodN sq (serK sq last j) = p at *
  have hd := Nat.div_le_self p (m * (m - 1))
  rw [Int.ofNat_sub (by omega), Int.natCast_ediv, Int.natCast_mul, Int.ofNat_sub (by omega)]
  rfl

theorem mul_bd (m : Nat) (h2 : 2 ≤ m) (h : m ≤ 40) : 2 ≤ (m : Int) * ((m : Int) - 1) ∧ (m : Int) * ((m : Int) - 1) ≤ 1600 := by
  obtain ⟨k, rfl⟩ : ∃ k, m = k + 1 := ⟨m - 1, by omega⟩
  have e : ((k + 1 : Nat) : Int) * (((k + 1 : Nat) : Int) - 1) = (((k + 1) * k : Nat) : Int) := by
    rw [Int.natCast_mul]; congr 1; omega
  rw [e]
  have a : 2 * 1 ≤ (k + 1) * k := Nat.mul_le_mul (by omega) (by omega)
  have b : (k + 1) * k ≤ 40 * 40 := Nat.mul_le_mul (by omega) (by omega)
  omega

set_option maxHeartbeats 400000 in
theorem series_any (sq last : Nat) (hsq : sq ≤ 9223372036854775808) (hl : last ≤ 40) (w : World) :
    Calls Tryd.prog 116 #[.int .u64 sq, .int .u64 last] w fun e w' => e = .returned (.int .u64 ((serK sq last (last / 2) : Nat) : Int)) ∧ w = w' := by
  go_enter Tryd.func116, Tryd.ntmps116
  go_wp2
  go_loop [5, 6] (fun s n => ∃ j m : Nat, 2 * j + m = last ∧ s = .int .u64 ((serK sq last j : Nat) : Int) ∧ n = .int .u64 (m : Int)) (fun _ n => (intOf n).toNat)
  case atStart => exact ⟨0, last, by omega, rfl, rfl⟩
  case round =>
    obtain ⟨j, m, hj, rfl, rfl⟩ := hrel
    have hs := serK_le sq last j
    have hp := prodN_le sq (serK sq last j) hsq
    by_cases hlt : 1 < m
    · have E := Lib.hid (ser_round sq last j m (by omega) hlt hsq)
      obtain ⟨b1, b2⟩ := mul_bd m hlt (by omega)
      have hd0 : 0 ≤ ((prodN sq (serK sq last j) : Nat) : Int) / ((m : Int) * ((m : Int) - 1)) := Int.ediv_nonneg (by omega) (by omega)
      have hd1 : ((prodN sq (serK sq last j) : Nat) : Int) / ((m : Int) * ((m : Int) - 1)) ≤ 9223372036854775808 := by
        have := Int.ediv_le_self ((m : Int) * ((m : Int) - 1)) (show 0 ≤ ((prodN sq (serK sq last j) : Nat) : Int) by omega)
        omega
      go_wp2_with (go_at_call 117; refine (product_any _ _ hsq hs _).mono ?_; rintro e w' ⟨rfl, rfl⟩)
      go_round
      case rel => exact ⟨j + 1, m - 2, by omega, by rw [← E.out], by go_num⟩
      case measure => simp [intOf]; omega
    · go_wp2
      go_ret
      exact ⟨ret_int (by rw [show j = last / 2 by omega]), rfl⟩
end Go.Proofs.YtnjedigjabijcaaDoor
