import Derived.Test.YtnjedigjabijcaaDoorRefRead2
import Derived.Laws.IdiomStrings
namespace Go.Proofs.YtnjedigjabijcaaDoor
open Go Go.RowKit

/-- The last j digits of n. -/
def lowD (n : Nat) : Nat → List UInt8
  | 0 => []
  | j + 1 => UInt8.ofNat (48 + n / 10 ^ j % 10) :: lowD n j
theorem lowD_len (n j : Nat) : (lowD n j).length = j := by
  induction j with
  | zero => rfl
  | succ j ih => rw [lowD, List.length_cons, ih]
/-- A slice of one digit, as a string. -/
theorem one_digit (q : Nat) (V : World) : (convert 92 9 (.slice (some ⟨V.heap.size, 0, none⟩) 1 1)).run Tryd.prog (V.alloc (.cells #[.int .u8 (48 + (q : Int) % 10)] 5)) =
    .ok (.string ⟨[UInt8.ofNat (48 + q % 10)].toArray⟩) (V.alloc (.cells #[.int .u8 (48 + (q : Int) % 10)] 5)) := by
  refine run_convert_bytes_back _ 92 9 5 ⟨V.heap.size, 0, none⟩ 1 [UInt8.ofNat (48 + q % 10)] Tryd.underlying92 Tryd.underlying5 Tryd.underlying9 ?_
  intro j hj
  obtain rfl : j = 0 := by simp at hj; omega
  have e : (([UInt8.ofNat (48 + q % 10)][0]).toNat : Int) = 48 + (q : Int) % 10 := by
    simp only [List.getElem_cons_zero, digit_byte (q % 10) (by omega)]
    omega
  rw [e]
  simp [go_sem, Addr.add]
def DecRel (n d : Nat) (w : World) (m s : Value) (wr : World) : Prop :=
  ∃ j : Nat, m = .int .i64 ((n / 10 ^ j : Nat) : Int) ∧ s = .string ⟨(lowD n j).toArray⟩ ∧ Below w.heap.size w wr ∧ (j ≤ d ∨ (j ≤ 9 ∧ 0 < n / 10 ^ (j - 1)))
def DecPost (n d j : Nat) : Prop := d ≤ j ∧ n / 10 ^ j = 0 ∧ (j = d ∨ 0 < n / 10 ^ (j - 1))
theorem pow_div (n j : Nat) : n / 10 ^ j / 10 = n / 10 ^ (j + 1) := by rw [Nat.div_div_eq_div_mul, Nat.pow_succ]

set_option maxRecDepth 100000 in
set_option maxHeartbeats 2000000 in
theorem decimal_any (n d : Nat) (hn : n < 1000000000) (hd : 1 ≤ d) (hd9 : d ≤ 9) (w : World) :
    Calls Tryd.prog 73 #[.int .i64 (n : Int), .int .i64 (d : Int)] w
      fun e w' => (∃ j : Nat, e = .returned (.string ⟨(lowD n j).toArray⟩) ∧ DecPost n d j) ∧ Below w.heap.size w w' := by
  go_enter Tryd.func73, Tryd.ntmps73
  go_wp2
  go_loopw [0, 5] (fun m s wr => DecRel n d w m s wr) (fun m s _ => (intOf m).toNat + (d - (match s with | .string b => b.size | _ => 0)))
  case atStart => exact ⟨0, by simp, rfl, Below.refl _ _, Or.inl (Nat.zero_le _)⟩
  case round =>
    obtain ⟨j, rfl, rfl, hB, hj⟩ := hrel
    have hl := lowD_len n j
    have hlI : ((lowD n j).length : Int) = (j : Int) := by omega
    have hs : lowD n (j + 1) = UInt8.ofNat (48 + n / 10 ^ j % 10) :: lowD n j := rfl
    have hd' := pow_div n j
    have HS := Lib.hid hs
    have HD := Lib.hid hd'
    have hq9 : n / 10 ^ j ≤ n := Nat.div_le_self _ _
    have j9 : j ≤ 9 := by omega
    have HN : Hid (0 < n / 10 ^ j → j + 1 ≤ 9 ∧ 0 < n / 10 ^ (j + 1 - 1)) := Lib.hid fun h => by
      rw [Nat.add_sub_cancel]
      refine ⟨?_, h⟩
      rcases Nat.lt_or_ge j 9 with g | g
      · omega
      · have p : 10 ^ 9 ≤ 10 ^ j := Nat.pow_le_pow_right (by omega) g
        rw [Nat.div_eq_of_lt (by omega)] at h
        omega
    have HO : Hid (n / 10 ^ j = 0 → j = d ∨ ¬ j ≤ d → (j = d ∨ 0 < n / 10 ^ (j - 1))) := Lib.hid fun _ h2 => by
      rcases h2 with h2 | h2
      · exact Or.inl h2
      · rcases hj with h3 | h3
        · exact absurd h3 h2
        · exact Or.inr h3.2
    clear hs hd' hj
    have HA := Lib.hid (append_bytes [UInt8.ofNat (48 + n / 10 ^ j % 10)] (lowD n j))
    have hz : (⟨(lowD n j).toArray⟩ : ByteArray).size = j := by rw [Lib.size_mk]; exact hl
    have hy : (⟨[UInt8.ofNat (48 + n / 10 ^ j % 10)].toArray⟩ : ByteArray).size = 1 := rfl
    have hcv := one_digit (n / 10 ^ j) wr
    have hq9 : n / 10 ^ j ≤ n := Nat.div_le_self _ _
    generalize (⟨[UInt8.ofNat (48 + n / 10 ^ j % 10)].toArray⟩ : ByteArray) = B at *
    have HE : Hid (((n / 10 ^ j : Nat) : Int) / 10 = ((n / 10 ^ (j + 1) : Nat) : Int)) := Lib.hid (by rw [← HD.out]; rfl)
    have HSt := Lib.hid (show (⟨(lowD n j).toArray⟩ : ByteArray) = ⟨(lowD n j).toArray⟩ from rfl)
    generalize hS : (⟨(lowD n j).toArray⟩ : ByteArray) = S at *
    have HZ := Lib.hid hz
    have HY := Lib.hid hy
    have HSS := Lib.hid hS
    have hno : ¬ 9223372036854775807 < B.size + S.size := by omega
    generalize hq : n / 10 ^ j = q at *
    have hw : IntKind.i64.wrap ((q : Int) / 10) = (q : Int) / 10 := IntWalk.i64_in _ (by clear hq; omega)
    have HQ := Lib.hid hq
    have hsz : S.size = j := hz
    clear hl hlI hy hS hq hz
    have hq9' := Nat.le_refl 0
    clear hq9
    by_cases hp : 0 < q
    · have hp' : (0 : Int) < (q : Int) := by omega
      have HP := Lib.hid hp
      clear hsz hq9'
      go_wp2_with fail
      go_roundw
      case rel =>
        refine ⟨j + 1, by rw [HE.out], ?_, below_next hB (alloc_below wr _), Or.inr (HN.out HP.out)⟩
        rw [HA.out]
        exact congrArg Value.string (congrArg ByteArray.mk (congrArg List.toArray HS.out.symm))
      case measure =>
        have := HZ.out; have := HY.out; have := HP.out
        simp [intOf, ByteArray.size_append]
        omega
    · have hp' : ¬ (0 : Int) < (q : Int) := by omega
      by_cases hlt : S.size < d
      · have hlt' : (S.size : Int) < (d : Int) := by omega
        have HP := Lib.hid hlt
        clear hsz hq9'
        go_wp2_with fail
        go_roundw
        case rel =>
          refine ⟨j + 1, by rw [HE.out], ?_, below_next hB (alloc_below wr _), Or.inl (by have := HZ.out; have := HP.out; omega)⟩
          rw [HA.out]
          exact congrArg Value.string (congrArg ByteArray.mk (congrArg List.toArray HS.out.symm))
        case measure =>
          have := HZ.out; have := HY.out; have := HP.out
          simp [intOf, ByteArray.size_append]
          omega
      · have hlt' : ¬ (S.size : Int) < (d : Int) := by omega
        have HP := Lib.hid hlt
        have HP0 := Lib.hid hp
        clear hsz hq9'
        go_wp2_with fail
        go_ret
        have e0 : n / 10 ^ j = 0 := by have := HQ.out; have := HP0.out; omega
        have ej : j = d ∨ ¬ j ≤ d := by have := HZ.out; have := HP.out; omega
        refine ⟨⟨j, by rw [HSS.out]; first | done | rfl, by have := HZ.out; have := HP.out; omega, e0, ?_⟩, hB⟩
        exact HO.out (by have := HP0.out; omega) ej
end Go.Proofs.YtnjedigjabijcaaDoor
