import Derived.Test.YtnjedigjabijcaaDoorReadMath
import Derived.LoopTactic
namespace Go.Proofs.YtnjedigjabijcaaDoor
open Go Go.RowKit

theorem take_next (s : ByteArray) (k : Nat) (h : k < s.size) : s.data.toList.take (k + 1) = s.data.toList.take k ++ [s[k]] := by
  rw [List.take_succ_eq_append_getElem (by simpa using h)]; rfl
theorem digB_in (c : UInt8) : digB c = true ↔ 48 ≤ (c.toNat : Int) ∧ (c.toNat : Int) ≤ 57 := by
  unfold digB; simp only [Bool.and_eq_true, decide_eq_true_eq]
theorem all_next (s : ByteArray) (k : Nat) (h : k < s.size) (ha : (s.data.toList.take k).all digB = true) (h1 : 48 ≤ (s[k].toNat : Int)) (h2 : (s[k].toNat : Int) ≤ 57) : (s.data.toList.take (k + 1)).all digB = true := by
  rw [take_next s k h, List.all_append, ha]
  simp only [List.all_cons, List.all_nil, Bool.and_true, Bool.true_and]
  exact (digB_in _).2 ⟨h1, h2⟩
theorem all_not (s : ByteArray) (k : Nat) (h : k < s.size) (hc : ¬ (48 ≤ (s[k].toNat : Int) ∧ (s[k].toNat : Int) ≤ 57)) (m : Nat) : digsB s.data.toList m = false := by
  unfold digsB
  have : s.data.toList.all digB = false := by
    rw [Bool.eq_false_iff]
    intro ha
    exact hc ((digB_in _).1 (List.all_eq_true.1 ha s[k] (by
      have : s.data.toList[k]'(by simpa using h) = s[k] := rfl
      rw [← this]
      exact List.getElem_mem _)))
  rw [this]; rfl
theorem digsB_len (s : ByteArray) (m : Nat) (ha : s.data.toList.all digB = true) : digsB s.data.toList m = (decide (1 ≤ (s.size : Int)) && decide ((s.size : Int) ≤ (m : Int))) := by
  unfold digsB
  rw [ha]
  have e : s.data.toList.length = s.size := rfl
  rw [e, Bool.eq_iff_iff]
  simp only [Bool.and_eq_true, decide_eq_true_eq, Bool.true_and]
  omega

set_option maxHeartbeats 1000000 in
theorem isDigits_any (s : ByteArray) (m : Nat) (hs : s.size ≤ 1000) (w : World) :
    Calls Tryd.prog 88 #[.string s, .int .i64 m] w fun e w' => e = .returned (.bool (digsB s.data.toList m)) ∧ w = w' := by
  go_enter Tryd.func88, Tryd.ntmps88
  go_wp2
  go_loop [8] (fun i => ∃ k : Nat, k ≤ s.size ∧ i = .int .i64 k ∧ (s.data.toList.take k).all digB = true) (fun i => s.size - (intOf i).toNat)
  case atStart => exact ⟨0, Nat.zero_le _, rfl, rfl⟩
  case round =>
    obtain ⟨k, hk, rfl, ha⟩ := hrel
    have HA := Lib.hid ha
    clear ha
    by_cases hlt : k < s.size
    · by_cases hc : 48 ≤ (s[k].toNat : Int) ∧ (s[k].toNat : Int) ≤ 57
      · have HN := Lib.hid (all_next s k hlt HA.out hc.1 hc.2)
        obtain ⟨c1, c2⟩ := hc
        clear HA
        go_wp2
        go_round
        case rel => exact ⟨k + 1, by omega, by go_num, HN.out⟩
        case measure => simp [intOf]; omega
      · have E := Lib.hid (all_not s k hlt hc m)
        have hc' : (s[k].toNat : Int) < 48 ∨ (¬ (s[k].toNat : Int) < 48 ∧ 57 < (s[k].toNat : Int)) := by omega
        clear HA hc
        rcases hc' with c1 | ⟨c1, c2⟩
        all_goals
          go_wp2
          go_ret
          exact ⟨ret_bool (by rw [E.out]), rfl⟩
    · have hall : s.data.toList.all digB = true := by
        have := HA.out
        rwa [List.take_of_length_le (by show s.size ≤ k; omega)] at this
      have E := Lib.hid (digsB_len s m hall)
      clear HA hall
      by_cases d1 : 1 ≤ s.size
      · by_cases d2 : s.size ≤ m
        all_goals
          go_wp2
          go_ret
          exact ⟨ret_bool (by rw [E.out]; simp; omega), rfl⟩
      · go_wp2
        go_ret
        exact ⟨ret_bool (by rw [E.out]; simp; omega), rfl⟩
theorem num_next (s : ByteArray) (k : Nat) (h : k < s.size) : numI (s.data.toList.take (k + 1)) = 10 * numI (s.data.toList.take k) + ((s[k].toNat : Int) - 48) := by
  rw [take_next s k h, numI_snoc]
theorem num_bd (s : ByteArray) (k : Nat) (hk : k ≤ s.size) (hs : s.size ≤ 9) (ha : s.data.toList.all digB = true) : 0 ≤ numI (s.data.toList.take k) ∧ numI (s.data.toList.take k) ≤ 1000000000 := by
  have hall : (s.data.toList.take k).all digB = true := by
    rw [List.all_eq_true] at ha ⊢
    exact fun c hc => ha c (List.mem_of_mem_take hc)
  obtain ⟨h1, h2⟩ := numI_digits _ hall
  have hl : (s.data.toList.take k).length ≤ 9 := by
    have : s.data.toList.length = s.size := rfl
    rw [List.length_take]; omega
  have : (10 : Int) ^ (s.data.toList.take k).length ≤ 10 ^ 9 := by exact_mod_cast Nat.pow_le_pow_right (by decide) hl
  have e : (10 : Int) ^ 9 = 1000000000 := by decide
  omega
theorem byte_at (s : ByteArray) (k : Nat) (h : k < s.size) (ha : s.data.toList.all digB = true) : 48 ≤ (s[k].toNat : Int) ∧ (s[k].toNat : Int) ≤ 57 := by
  refine (digB_in _).1 (List.all_eq_true.1 ha s[k] ?_)
  have : s.data.toList[k]'(by simpa using h) = s[k] := rfl
  rw [← this]
  exact List.getElem_mem _

set_option maxHeartbeats 1000000 in
theorem number_any (s : ByteArray) (hs : s.size ≤ 9) (ha : s.data.toList.all digB = true) (w : World) :
    Calls Tryd.prog 90 #[.string s] w fun e w' => e = .returned (.int .i64 (numI s.data.toList)) ∧ w = w' := by
  have HA := Lib.hid ha
  clear ha
  go_enter Tryd.func90, Tryd.ntmps90
  go_wp2
  go_loop [3, 7] (fun n i => ∃ k : Nat, k ≤ s.size ∧ i = .int .i64 k ∧ n = .int .i64 (numI (s.data.toList.take k))) (fun _ i => s.size - (intOf i).toNat)
  case atStart => exact ⟨0, Nat.zero_le _, rfl, rfl⟩
  case round =>
    obtain ⟨k, hk, rfl, rfl⟩ := hrel
    obtain ⟨b1, b2⟩ := num_bd s k hk hs HA.out
    by_cases hlt : k < s.size
    · have HN := Lib.hid (num_next s k hlt)
      obtain ⟨c1, c2⟩ := byte_at s k hlt HA.out
      generalize numI (s.data.toList.take k) = n at *
      go_wp2
      go_round
      case rel => exact ⟨k + 1, by omega, by go_num, by rw [HN.out]⟩
      case measure => simp [intOf]; omega
    · have hall : s.data.toList.take k = s.data.toList := List.take_of_length_le (by show s.size ≤ k; omega)
      rw [hall]
      clear hall b1 b2
      generalize hn : numI s.data.toList = n at *
      have E := Lib.hid hn
      clear hn
      go_wp2
      go_ret
      exact ⟨ret_int (by rw [E.out]), rfl⟩
end Go.Proofs.YtnjedigjabijcaaDoor
