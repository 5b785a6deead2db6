import Derived.Test.YtnjedigjabijcaaDoorRoot
import Derived.BigQuiet
namespace Go.Proofs.YtnjedigjabijcaaDoor
open Go Go.RowKit

/-- The root of a value, rounded down; whether it is the root itself; rounded up. -/
def rtN (m : Nat) : Nat := sqN (m * 100000000)
def exB (m : Nat) : Bool := rtN m * rtN m == m * 100000000
def upN (m : Nat) : Nat := if exB m then rtN m else rtN m + 1
theorem rt_any (v : Nat) (h1 : v ≤ 3000000000) (w : World) :
    Calls Tryd.prog 54 #[.int .i64 v] w fun e w' => e = .returned (.tuple #[.int .i64 (rtN v), .bool (exB v)]) ∧ w = w' := root_any v h1 w
theorem rtN_le (v : Nat) (h : v ≤ 3000000000) : rtN v ≤ 600000000 := by
  have := (sqN_spec (v * 100000000)).1
  unfold rtN
  apply Nat.le_of_lt_succ
  apply Nat.mul_self_lt_mul_self_iff.1
  omega
theorem upN_yes (m : Nat) (h : exB m = true) : upN m = rtN m := by unfold upN; rw [if_pos h]
theorem upN_no (m : Nat) (h : exB m = false) : upN m = rtN m + 1 := by unfold upN; rw [if_neg (by rw [h]; decide)]
def rootE (lo hi : Int) : (Int × Int) × Int := if inB lo hi 0 3000000000 then (((rtN lo.toNat : Int), (upN hi.toNat : Int)), 0) else ((0, 0), 7)
theorem rootE_ok (lo hi : Int) (h : inB lo hi 0 3000000000 = true) : rootE lo hi = (((rtN lo.toNat : Int), (upN hi.toNat : Int)), 0) := by unfold rootE; rw [h]; rfl
theorem rootE_no (lo hi : Int) (h : inB lo hi 0 3000000000 = false) : rootE lo hi = ((0, 0), 7) := by unfold rootE; rw [h]; rfl

set_option maxRecDepth 100000 in
set_option maxHeartbeats 2000000 in
theorem Root_any (lo hi : Int) (w : World) :
    Calls Tryd.prog 27 #[.agg #[.int .i64 lo, .int .i64 hi]] w fun e w' => e = .returned (pairV (rootE lo hi).1 (rootE lo hi).2) ∧ Below w.heap.size w w' := by
  have SA0 := (Slot2.new w (.int .i64 lo) (.int .i64 hi) 23).alloc (.cells #[.int .i64 0, .int .i64 0] 23)
  have SR0 := Slot2.new (w.alloc (.cells #[.int .i64 lo, .int .i64 hi] 23)) (.int .i64 0) (.int .i64 0) 23
  simp only [World.size_alloc] at SR0
  have hW : Below w.heap.size w ((w.alloc (.cells #[.int .i64 lo, .int .i64 hi] 23)).alloc (.cells #[.int .i64 0, .int .i64 0] 23)) := by go_grown
  go_enter Tryd.func27, Tryd.ntmps27
  go_wp2_with fail
  refine (within_any lo hi 0 3000000000 _).mono ?_
  rintro e w1 ⟨rfl, hB1⟩
  simp only [World.size_alloc] at hB1
  have SA := SA0.below hB1 (by omega)
  have SR := SR0.below hB1 (by omega)
  have hB := hW.trans (hB1.mono (by omega))
  clear SA0 SR0 hW hB1
  cases hc : inB lo hi 0 3000000000
  · have E := Lib.hid (rootE_no lo hi hc)
    clear hc
    have SF := (SR.set0 (.int .i64 0)).set1 (.int .i64 0)
    have HB := Lib.hid ((hB.setCell (p := ⟨w.heap.size + 1, 0, none⟩) (by simp) (.int .i64 0)).setCell (p := ⟨w.heap.size + 1, 1, none⟩) (by simp) (.int .i64 0))
    obtain ⟨liesR, r0, r1, rf0, rf1⟩ := SR
    clear hB
    go_wp2
    refine bodyPost_ret (v := pairV (0, 0) 7) (by simp [results, Tryd.results27, go_sem, SF.cell0, SF.cell1]; exact rfl) rfl ⟨by rw [E.out], HB.out⟩
  · obtain ⟨i1, i2, i3⟩ := inB_yes hc
    have E := Lib.hid (rootE_ok lo hi hc)
    clear hc
    obtain ⟨m, rfl⟩ := Int.eq_ofNat_of_zero_le i1
    obtain ⟨n, rfl⟩ := Int.eq_ofNat_of_zero_le (show 0 ≤ hi by omega)
    have b1 := rtN_le m (by omega)
    have b2 := rtN_le n (by omega)
    have ER : Hid (rootE (m : Int) (n : Int) = (((rtN m : Int), (upN n : Int)), 0)) := E.out
    clear E
    obtain ⟨liesA, a0, a1, af0, af1⟩ := SA
    have C1 := Lib.hid (fun w => rt_any m (by omega) w)
    have C2 := Lib.hid (fun w => rt_any n (by omega) w)
    cases hx : exB n
    · have hU := Lib.hid (upN_no n hx)
      rw [hx] at C2
      clear hx
      go_wp2_with fail
      refine (C1.out _).mono ?_
      rintro e w2 ⟨rfl, rfl⟩
      go_wp2_with fail
      refine (C2.out _).mono ?_
      rintro e w3 ⟨rfl, rfl⟩
      have SF := (SR.set0 (.int .i64 (rtN m))).set1 (.int .i64 ((rtN n : Int) + 1))
      have HB := Lib.hid ((hB.setCell (p := ⟨w.heap.size + 1, 0, none⟩) (by simp) (.int .i64 (rtN m))).setCell (p := ⟨w.heap.size + 1, 1, none⟩) (by simp) (.int .i64 ((rtN n : Int) + 1)))
      obtain ⟨liesR, r0, r1, rf0, rf1⟩ := SR
      clear hB
      go_wp2
      refine bodyPost_ret (v := pairV (rtN m, (rtN n : Int) + 1) 0) (by simp [results, Tryd.results27, go_sem, SF.cell0, SF.cell1]; exact rfl) rfl ⟨by rw [ER.out, hU.out]; rfl, HB.out⟩
    · have hU := Lib.hid (upN_yes n hx)
      rw [hx] at C2
      clear hx
      go_wp2_with fail
      refine (C1.out _).mono ?_
      rintro e w2 ⟨rfl, rfl⟩
      go_wp2_with fail
      refine (C2.out _).mono ?_
      rintro e w3 ⟨rfl, rfl⟩
      have SF := (SR.set0 (.int .i64 (rtN m))).set1 (.int .i64 (rtN n : Int))
      have HB := Lib.hid ((hB.setCell (p := ⟨w.heap.size + 1, 0, none⟩) (by simp) (.int .i64 (rtN m))).setCell (p := ⟨w.heap.size + 1, 1, none⟩) (by simp) (.int .i64 (rtN n : Int)))
      obtain ⟨liesR, r0, r1, rf0, rf1⟩ := SR
      clear hB
      go_wp2
      refine bodyPost_ret (v := pairV (rtN m, (rtN n : Int)) 0) (by simp [results, Tryd.results27, go_sem, SF.cell0, SF.cell1]; exact rfl) rfl ⟨by rw [ER.out, hU.out], HB.out⟩

/-- What the law asks of the roots. -/
theorem rt_facts (m n : Nat) (hmn : m ≤ n) (hn : n ≤ 3000000000) :
    rtN m ≤ upN n ∧ upN n ≤ 600000001 ∧ (rtN m : Int) * rtN m ≤ (m : Int) * 100000000 ∧ (m : Int) * 100000000 < ((rtN m : Int) + 1) * ((rtN m : Int) + 1) ∧
      (n : Int) * 100000000 ≤ (upN n : Int) * upN n ∧ (upN n = 0 ∨ ((upN n : Int) - 1) * ((upN n : Int) - 1) < (n : Int) * 100000000) := by
  obtain ⟨a1, a2⟩ := sqN_spec (m * 100000000)
  obtain ⟨b1, b2⟩ := sqN_spec (n * 100000000)
  have hb := rtN_le n hn
  change rtN m * rtN m ≤ m * 100000000 at a1
  change m * 100000000 < (rtN m + 1) * (rtN m + 1) at a2
  change rtN n * rtN n ≤ n * 100000000 at b1
  change n * 100000000 < (rtN n + 1) * (rtN n + 1) at b2
  have a1' := Int.ofNat_le.2 a1
  have a2' := Int.ofNat_lt.2 a2
  have b1' := Int.ofNat_le.2 b1
  have b2' := Int.ofNat_lt.2 b2
  simp only [Int.natCast_mul, Int.natCast_add, Int.cast_ofNat_Int] at a1' a2' b1' b2'
  have hle : rtN m ≤ rtN n := by
    apply Nat.le_of_lt_succ
    apply Nat.mul_self_lt_mul_self_iff.1
    show rtN m * rtN m < (rtN n + 1) * (rtN n + 1)
    omega
  cases hx : exB n
  · rw [upN_no n hx]
    have hne : rtN n * rtN n ≠ n * 100000000 := by unfold exB at hx; simpa using hx
    have hne' : (rtN n : Int) * rtN n ≠ (n : Int) * 100000000 := fun h => hne (Int.ofNat_inj.1 (by simpa using h))
    refine ⟨by omega, by omega, a1', a2', ?_, Or.inr ?_⟩
    · simp only [Int.natCast_add, Int.cast_ofNat_Int]; omega
    · rw [show (((rtN n + 1 : Nat) : Int) - 1) = (rtN n : Int) by omega]; omega
  · rw [upN_yes n hx]
    have he : rtN n * rtN n = n * 100000000 := by unfold exB at hx; simpa using hx
    have he' : (rtN n : Int) * rtN n = (n : Int) * 100000000 := by have := congrArg (fun k : Nat => (k : Int)) he; simpa using this
    refine ⟨hle, by omega, a1', a2', by omega, ?_⟩
    by_cases h0 : rtN n = 0
    · exact Or.inl h0
    · right
      rw [← he']
      have : (rtN n - 1) * (rtN n - 1) < rtN n * rtN n := Nat.mul_self_lt_mul_self (by omega)
      have := Int.ofNat_lt.2 this
      rw [Int.natCast_mul, Int.natCast_mul, Int.ofNat_sub (by omega)] at this
      exact this
end Go.Proofs.YtnjedigjabijcaaDoor
