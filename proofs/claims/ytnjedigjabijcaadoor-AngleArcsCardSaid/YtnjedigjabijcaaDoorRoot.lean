import Derived.Test.YtnjedigjabijcaaDoorAwake
import Derived.Test.YtnjedigjabijcaaDoorSqrt
import Derived.WalkLawsBesides
import Derived.Laws.FloatArith
namespace Go.Proofs.YtnjedigjabijcaaDoor
open Go Go.RowKit

theorem run_sqrt (x y : Nat) (h : Ieee.double.sqrt x = some y) (w : World) : (callFunc 100 #[.float .f64 x]).run Tryd.prog w = .ok (.value (.float .f64 y)) w := by
  have e : (callFunc 100 #[.float .f64 x]).run Tryd.prog w = ((Extern.MathSqrt.sqrt #[.float .f64 x]).run Tryd.prog w).andThen fun v w' => .ok (.value v) w' := by
    refine run_callFunc_extern (fn := Tryd.f100) Tryd.func100 (by kernel_rfl) rfl (by kernel_rfl) ?_ _ _
    kernel_rfl
  rw [e]
  have h' : FloatKind.f64.format.sqrt x = some y := h
  have e2 : Extern.MathSqrt.sqrt #[.float .f64 x] = (pure (.float .f64 y) : Sem Value) := by
    change (match FloatKind.f64.format.sqrt x with
      | some r => (pure (.float .f64 r) : Sem Value)
      | none => do pure (.float .f64 (← choose (.nanBits .f64 x x)))) = _
    rw [h']
  rw [e2]
  simp

set_option maxRecDepth 100000 in
set_option maxHeartbeats 1000000 in
theorem sqrt_any (x y : Nat) (h : Ieee.double.sqrt x = some y) (w : World) :
    Calls Tryd.prog 81 #[.float .f64 x] w fun e w' => e = .returned (.float .f64 y) ∧ w = w' := by
  have H := fun w => run_sqrt x y h w
  clear h
  go_enter Tryd.func81, Tryd.ntmps81
  go_wp2
  go_ret
  exact ⟨rfl, rfl⟩

/-- The square root, rounded down. -/
def sqN (n : Nat) : Nat := Ieee.Datum.rootFrom n (n.log2 / 2 + 1) 0
theorem sqN_spec (n : Nat) : sqN n * sqN n ≤ n ∧ n < (sqN n + 1) * (sqN n + 1) := SqrtMath.root_spec n
theorem sqN_eq {n R : Nat} (h : SqrtMath.IsRoot R n) : R = sqN n := by
  obtain ⟨h1, h2⟩ := h
  obtain ⟨k1, k2⟩ := sqN_spec n
  have a : R < sqN n + 1 := Nat.mul_self_lt_mul_self_iff.1 (Nat.lt_of_le_of_lt h1 k2)
  have b : sqN n < R + 1 := Nat.mul_self_lt_mul_self_iff.1 (Nat.lt_of_le_of_lt k1 h2)
  omega

theorem float_way (v : Nat) (h : v ≤ 3000000000) :
    ∃ y r : Nat, Ieee.double.sqrt (floatOfInt .f64 ((v : Int) * 100000000)) = some y ∧ floatToIntVal .f64 y .i64 = some (r : Int) ∧ (r = sqN (v * 100000000) ∨ r = sqN (v * 100000000) + 1) ∧ sqN (v * 100000000) ≤ 600000000 := by
  have hb : sqN (v * 100000000) ≤ 600000000 := by
    have := (sqN_spec (v * 100000000)).1
    apply Nat.le_of_lt_succ
    apply Nat.mul_self_lt_mul_self_iff.1
    omega
  by_cases h0 : v = 0
  · subst h0
    refine ⟨0, 0, by decide +kernel, by decide +kernel, Or.inl (by decide +kernel), hb⟩
  · obtain ⟨y, r, R, h1, h2, h3, h4⟩ := SqrtMath.sqrt_way (v * 100000000) (by omega) (by omega) (by omega)
    have hR := sqN_eq h3
    subst hR
    refine ⟨y, r, ?_, ?_, h4, hb⟩
    · have e : floatOfInt .f64 ((v : Int) * 100000000) = Ieee.double.nearest false (v * 100000000) 0 := by
        unfold floatOfInt FloatKind.nearest FloatKind.encode
        have e1 : decide ((v : Int) * 100000000 < 0) = false := by simp; omega
        have e2 : ((v : Int) * 100000000).natAbs = v * 100000000 := by omega
        rw [e1, e2]
        rfl
      rw [e]; exact h1
    · unfold floatToIntVal
      have e : (FloatKind.f64.decode y).toInt .zero = some (r : Int) := h2
      rw [e]
      have e3 : IntKind.i64.min ≤ (r : Int) ∧ (r : Int) ≤ IntKind.i64.max := by
        have m1 : IntKind.i64.min = -9223372036854775808 := by decide
        have m2 : IntKind.i64.max = 9223372036854775807 := by decide
        rw [m1, m2]; omega
      simp only [e3, and_self, if_true]

theorem ret_rb {a b : Int} {x y : Bool} (h1 : a = b) (h2 : x = y) : Ending.returned (.tuple #[.int .i64 a, .bool x]) = .returned (.tuple #[.int .i64 b, .bool y]) := by rw [h1, h2]

set_option maxRecDepth 100000 in
set_option maxHeartbeats 1000000 in
theorem root_any (v : Nat) (h1 : v ≤ 3000000000) (w : World) :
    Calls Tryd.prog 54 #[.int .i64 v] w fun e w' => e = .returned (.tuple #[.int .i64 (sqN (v * 100000000)), .bool (sqN (v * 100000000) * sqN (v * 100000000) == v * 100000000)]) ∧ w = w' := by
  obtain ⟨y, r, e1, e2, hr, hb⟩ := float_way v h1
  obtain ⟨k1, k2⟩ := sqN_spec (v * 100000000)
  have hu3 : (Tryd.prog.underlying 80).isSome = true := by kernel_rfl
  have hcv := fun w => run_convert_float_int (P := Tryd.prog) w 80 3 .f64 .i64 y (r : Int) hu3 Tryd.underlying3 e2
  have H1 := Lib.hid e1
  clear e1 e2 hu3
  generalize sqN (v * 100000000) = R at *
  have c1 : (R : Int) * R ≤ (v : Int) * 100000000 := by have := Int.ofNat_le.2 k1; simpa using this
  have c2 : (v : Int) * 100000000 < ((R : Int) + 1) * ((R : Int) + 1) := by have := Int.ofNat_lt.2 k2; simpa using this
  have c3 : 0 ≤ (R : Int) * R := Int.mul_nonneg (by omega) (by omega)
  have c4 : ((R : Int) + 1) * ((R : Int) + 1) ≤ 400000000000000000 := by
    have : (R + 1) * (R + 1) ≤ 600000001 * 600000001 := Nat.mul_le_mul (by omega) (by omega)
    have := Int.ofNat_le.2 this; simp at this; omega
  have E : Hid ((R * R == v * 100000000) = ((R : Int) * R == (v : Int) * 100000000)) := by
    show _ = _
    rw [Bool.eq_iff_iff]; simp only [beq_iff_eq]
    constructor
    · intro h; have := congrArg (fun n : Nat => (n : Int)) h; simpa using this
    · intro h; apply Int.ofNat_inj.1; simpa using h
  clear k1 k2
  have c5 : (R : Int) * R ≤ 400000000000000000 := by omega
  have c6 : (R : Int) ≤ 600000000 := by omega
  rcases hr with rfl | rfl
  · clear c2 c4 hb
    go_enter Tryd.func54, Tryd.ntmps54
    go_wp2_with fail
    refine (sqrt_any _ y H1.out _).mono ?_
    rintro e w' ⟨rfl, rfl⟩
    go_wp2_with fail
    go_ret2
    exact ⟨ret_rb rfl E.out.symm, rfl⟩
  · simp only [Int.natCast_add, Int.cast_ofNat_Int] at hcv
    go_enter Tryd.func54, Tryd.ntmps54
    go_wp2_with fail
    refine (sqrt_any _ y H1.out _).mono ?_
    rintro e w' ⟨rfl, rfl⟩
    go_wp2_with fail
    go_ret2
    exact ⟨ret_rb rfl E.out.symm, rfl⟩
end Go.Proofs.YtnjedigjabijcaaDoor
