import Derived.Test.YtnjedigjabijcaaDoorRefWrite4
namespace Go.Proofs.YtnjedigjabijcaaDoor
open Go Go.RowKit

set_option maxRecDepth 100000 in
set_option maxHeartbeats 2000000 in
theorem rwrite_axis (a axis : Int) (h0 : ¬ axis = 0) (h1 : ¬ axis = 1) (w : World) :
    Calls Tryd.prog 40 #[.int .i64 a, .int .i64 axis] w fun e w' => e = .returned (textV [] 2) ∧ Below w.heap.size w w' := by
  have g0 : (axis != 0) = true := by simpa using h0
  have g1 : (axis != 1) = true := by simpa using h1
  clear h0 h1
  go_enter Tryd.func40, Tryd.ntmps40
  go_wp2_with fail
  go_ret2
  exact ⟨rfl, Below.refl _ _⟩
set_option maxRecDepth 100000 in
set_option maxHeartbeats 2000000 in
theorem rwrite_far (a axis : Int) (hx : axis = 0 ∨ axis = 1) (h : a < -(if axis = 0 then 90000000 else 180000000) ∨ (if axis = 0 then 90000000 else 180000000) < a) (w : World) :
    Calls Tryd.prog 40 #[.int .i64 a, .int .i64 axis] w fun e w' => e = .returned (textV [] 7) ∧ Below w.heap.size w w' := by
  have CM := Lib.hid (most_any axis hx)
  rcases hx with rfl | rfl
  · rw [if_pos rfl] at h
    have wn : IntKind.i64.wrap (-90000000) = -90000000 := by decide
    by_cases c : a < -90000000
    · go_enter Tryd.func40, Tryd.ntmps40
      go_wp2_with fail
      refine (CM.out _).mono ?_
      rintro e w' ⟨rfl, rfl⟩
      go_wp2_with fail
      go_ret2
      exact ⟨rfl, Below.refl _ _⟩
    · have c2 : 90000000 < a := by omega
      go_enter Tryd.func40, Tryd.ntmps40
      go_wp2_with fail
      refine (CM.out _).mono ?_
      rintro e w' ⟨rfl, rfl⟩
      go_wp2_with fail
      refine (CM.out _).mono ?_
      rintro e w' ⟨rfl, rfl⟩
      go_wp2_with fail
      go_ret2
      exact ⟨rfl, Below.refl _ _⟩
  · rw [if_neg (by decide)] at h
    have wn : IntKind.i64.wrap (-180000000) = -180000000 := by decide
    by_cases c : a < -180000000
    · go_enter Tryd.func40, Tryd.ntmps40
      go_wp2_with fail
      refine (CM.out _).mono ?_
      rintro e w' ⟨rfl, rfl⟩
      go_wp2_with fail
      go_ret2
      exact ⟨rfl, Below.refl _ _⟩
    · have c2 : 180000000 < a := by omega
      go_enter Tryd.func40, Tryd.ntmps40
      go_wp2_with fail
      refine (CM.out _).mono ?_
      rintro e w' ⟨rfl, rfl⟩
      go_wp2_with fail
      refine (CM.out _).mono ?_
      rintro e w' ⟨rfl, rfl⟩
      go_wp2_with fail
      go_ret2
      exact ⟨rfl, Below.refl _ _⟩
/-- The reference writes what the program writes. -/
theorem rwrite_any (a axis : Int) (w : World) :
    Calls Tryd.prog 40 #[.int .i64 a, .int .i64 axis] w fun e w' => e = .returned (textV (writeE a axis).1 (writeE a axis).2) ∧ Below w.heap.size w w' := by
  unfold writeE
  by_cases x0 : axis = 0
  · rw [if_pos x0]
    by_cases c : a < -90000000 ∨ 90000000 < a
    · rw [if_pos c]
      exact rwrite_far a axis (Or.inl x0) (by rw [if_pos x0]; exact c) w
    · rw [if_neg c]
      subst x0
      by_cases n : a < 0
      · rw [if_pos n]
        obtain ⟨m, hm⟩ := Int.eq_ofNat_of_zero_le (show 0 ≤ -a by omega)
        have e : a = -(m : Int) := by omega
        subst e
        rw [Int.neg_neg]
        exact rwrite_neg0 m (by omega) (by omega) w
      · rw [if_neg n]
        obtain ⟨m, rfl⟩ := Int.eq_ofNat_of_zero_le (show 0 ≤ a by omega)
        exact rwrite_pos0 m (by omega) w
  · rw [if_neg x0]
    by_cases x1 : axis = 1
    · rw [if_pos x1]
      by_cases c : a < -180000000 ∨ 180000000 < a
      · rw [if_pos c]
        exact rwrite_far a axis (Or.inr x1) (by rw [if_neg x0]; exact c) w
      · rw [if_neg c]
        subst x1
        by_cases n : a < 0
        · rw [if_pos n]
          obtain ⟨m, hm⟩ := Int.eq_ofNat_of_zero_le (show 0 ≤ -a by omega)
          have e : a = -(m : Int) := by omega
          subst e
          rw [Int.neg_neg]
          exact rwrite_neg1 m (by omega) (by omega) w
        · rw [if_neg n]
          obtain ⟨m, rfl⟩ := Int.eq_ofNat_of_zero_le (show 0 ≤ a by omega)
          exact rwrite_pos1 m (by omega) w
    · rw [if_neg x1]
      exact rwrite_axis a axis x0 x1 w
end Go.Proofs.YtnjedigjabijcaaDoor
