import Derived.Test.YtnjedigjabijcaaDoorCircLaw1
import Derived.Test.YtnjedigjabijcaaDoorCirc6
namespace Go.Proofs.YtnjedigjabijcaaDoor
open Go Go.RowKit

set_option maxRecDepth 100000 in
set_option maxHeartbeats 4000000 in
theorem law_circle_out (a b : Int) (w : World) (hm : MarkTab w) (hp : PowTab w) (h : a < -1800000000 ∨ (-1800000000 ≤ a ∧ 1800000000 < a) ∨ (-1800000000 ≤ a ∧ a ≤ 1800000000 ∧ b < -1800000000) ∨ (-1800000000 ≤ a ∧ a ≤ 1800000000 ∧ -1800000000 ≤ b ∧ 1800000000 < b)) :
    Calls Tryd.prog 7 #[.int .i64 a, .int .i64 b] w fun e w' => e = .returned (.bool true) ∧ Below w.heap.size w w' := by
  have HM := Lib.hid hm
  have HP := Lib.hid hp
  clear hm hp
  rcases h with h | ⟨h, g1⟩ | ⟨h, g1, g2⟩ | ⟨h, g1, g2, g3⟩
  all_goals
    go_enter Tryd.func7, Tryd.ntmps7
    go_wp2_with fail
    refine (awake_any _ HM.out HP.out).mono ?_
    rintro e w2 ⟨rfl, hB2⟩
    have HB := Lib.hid hB2
    clear hB2
    go_wp2_with fail
    go_ret
    exact ⟨rfl, HB.out⟩
theorem law_circle (a b : Int) (w : World) (hm : MarkTab w) (hp : PowTab w) :
    Calls Tryd.prog 7 #[.int .i64 a, .int .i64 b] w fun e w' => e = .returned (.bool true) ∧ Below w.heap.size w w' := by
  by_cases hin : -1800000000 ≤ a ∧ a ≤ 1800000000 ∧ -1800000000 ≤ b ∧ b ≤ 1800000000
  · obtain ⟨a0, a1, b0, b1⟩ := hin
    obtain ⟨⟨m1, m2⟩, ⟨m3, m4⟩, m5, m6⟩ := circle_math a b a0 a1 b0 b1
    have ws := sineE_top a
    have wc := sineE_top (a + 90000000)
    have E7 := sinOfE_one (a + 360000000) (by omega)
    rw [show a + 360000000 = a + 360000000 * 1 by omega, sineE_turn] at E7
    refine law_circle_in a b _ _ _ _ _ _ w hm hp a0 a1 b0 b1 (sinOfE_one a (by omega)) (cosOfE_one a (by omega)) (sinOfE_one b (by omega)) (cosOfE_one b (by omega)) (sinOfE_one (a + b) (by omega)) (cosOfE_one (a + b) (by omega))
      E7 (sinOfE_one (a + 90000000) (by omega)) (sine_fit _) (sine_fit _) (sine_fit _) (sine_fit _) (sine_fit _) (sine_fit _) (by omega) (by omega) ?_ ?_ ?_
    · unfold meetB sumE; simp; exact ⟨m1, m2⟩
    · unfold meetB sumE; simp; exact ⟨m3, m4⟩
    · unfold meetB; simp; exact ⟨m5, m6⟩
  · exact law_circle_out a b w hm hp (by omega)
end Go.Proofs.YtnjedigjabijcaaDoor
