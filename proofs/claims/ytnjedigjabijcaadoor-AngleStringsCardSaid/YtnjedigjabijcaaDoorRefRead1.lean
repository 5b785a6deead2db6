import Derived.Test.YtnjedigjabijcaaDoorRead1
namespace Go.Proofs.YtnjedigjabijcaaDoor
open Go Go.RowKit

/-- How many digits are at the beginning. -/
def figN (l : List UInt8) : Nat := (l.takeWhile digB).length
theorem fig_all (l : List UInt8) : ∀ k : Nat, k ≤ l.length → (l.take k).all digB = true → (∀ h : k < l.length, digB l[k] = false) → figN l = k := by
  induction l with
  | nil => intro k hk _ _; simp at hk; subst hk; rfl
  | cons c l ih =>
    intro k hk ha hn
    cases k with
    | zero =>
      have h0 := hn (by simp)
      simp only [List.getElem_cons_zero] at h0
      unfold figN
      rw [List.takeWhile_cons, h0]
      rfl
    | succ k =>
      simp only [List.take_succ_cons, List.all_cons, Bool.and_eq_true] at ha
      have hi := ih k (by simpa using hk) ha.2 (fun h => by
        have h1 : k + 1 < (c :: l).length := by simp only [List.length_cons]; omega
        exact hn h1)
      unfold figN at hi ⊢
      rw [List.takeWhile_cons, ha.1]
      simp [hi]
theorem fig_take (l : List UInt8) : (l.take (figN l)).all digB = true ∧ figN l ≤ l.length := by
  unfold figN
  induction l with
  | nil => simp
  | cons c l ih =>
    rw [List.takeWhile_cons]
    cases hc : digB c
    · simp
    · simp only [if_true, List.length_cons, List.take_succ_cons, List.all_cons, hc, Bool.true_and]
      exact ⟨ih.1, by omega⟩
theorem fig_byte (s : ByteArray) (k : Nat) (hk : k ≤ s.size) (ha : (s.data.toList.take k).all digB = true) (hn : ∀ h : k < s.size, ¬ (48 ≤ (s[k].toNat : Int) ∧ (s[k].toNat : Int) ≤ 57)) : figN s.data.toList = k := by
  refine fig_all s.data.toList k hk ha fun h => ?_
  have e : s.data.toList[k] = s[k]'h := rfl
  rw [e]
  cases hd : digB (s[k]'h)
  · rfl
  · exact absurd ((digB_in _).1 hd) (hn h)

set_option maxHeartbeats 1000000 in
theorem figures_any (s : ByteArray) (hs : s.size ≤ 1000) (w : World) :
    Calls Tryd.prog 69 #[.string s] w fun e w' => e = .returned (.int .i64 (figN s.data.toList : Int)) ∧ w = w' := by
  go_enter Tryd.func69, Tryd.ntmps69
  go_wp2
  go_loop [3] (fun i => ∃ k : Nat, k ≤ s.size ∧ i = .int .i64 k ∧ (s.data.toList.take k).all digB = true) (fun i => s.size - (intOf i).toNat)
  case atStart => exact ⟨0, Nat.zero_le _, rfl, rfl⟩
  case round =>
    obtain ⟨k, hk, rfl, ha⟩ := hrel
    have HA := Lib.hid ha
    clear ha
    by_cases hlt : k < s.size
    · by_cases c1 : 48 ≤ (s[k].toNat : Int)
      · by_cases c2 : (s[k].toNat : Int) ≤ 57
        · have HN := Lib.hid (all_next s k hlt HA.out c1 c2)
          clear HA
          go_wp2
          go_round
          case rel => exact ⟨k + 1, by omega, by go_num, HN.out⟩
          case measure => simp [intOf]; omega
        · have E := Lib.hid (fig_byte s k hk HA.out fun _ h => c2 h.2)
          clear HA
          go_wp2
          go_ret
          exact ⟨by rw [E.out]; rfl, rfl⟩
      · have E := Lib.hid (fig_byte s k hk HA.out fun _ h => c1 h.1)
        clear HA
        go_wp2
        go_ret
        exact ⟨by rw [E.out]; rfl, rfl⟩
    · have E := Lib.hid (fig_byte s k hk HA.out fun h => absurd h hlt)
      clear HA
      go_wp2
      go_ret
      exact ⟨by rw [E.out]; rfl, rfl⟩
set_option maxHeartbeats 1000000 in
theorem rnumber_any (s : ByteArray) (hs : s.size ≤ 9) (ha : s.data.toList.all digB = true) (w : World) :
    Calls Tryd.prog 70 #[.string s] w fun e w' => e = .returned (.int .i64 (numI s.data.toList)) ∧ w = w' := by
  have HA := Lib.hid ha
  clear ha
  go_enter Tryd.func70, Tryd.ntmps70
  go_wp2
  go_loop [3, 4] (fun n i => ∃ k : Nat, k ≤ s.size ∧ i = .int .i64 k ∧ n = .int .i64 (numI (s.data.toList.take k))) (fun _ i => s.size - (intOf i).toNat)
  case atStart => exact ⟨0, Nat.zero_le _, rfl, rfl⟩
  case round =>
    obtain ⟨k, hk, rfl, rfl⟩ := hrel
    obtain ⟨b1, b2⟩ := num_bd s k hk hs HA.out
    by_cases hlt : k < s.size
    · have HN := Lib.hid (num_next s k hlt)
      obtain ⟨c1, c2⟩ := byte_at s k hlt HA.out
      generalize numI (s.data.toList.take k) = n at *
      go_wp2
      go_round
      case rel => exact ⟨k + 1, by omega, by go_num, by rw [HN.out]⟩
      case measure => simp [intOf]; omega
    · have hall : s.data.toList.take k = s.data.toList := List.take_of_length_le (by show s.size ≤ k; omega)
      rw [hall]
      clear hall b1 b2
      generalize hn : numI s.data.toList = n at *
      have E := Lib.hid hn
      clear hn
      go_wp2
      go_ret
      exact ⟨ret_int (by rw [E.out]), rfl⟩
theorem most_any (k : Int) (hk : k = 0 ∨ k = 1) (w : World) :
    Calls Tryd.prog 71 #[.int .i64 k] w fun e w' => e = .returned (.int .i64 (if k = 0 then 90000000 else 180000000)) ∧ w = w' := by
  rcases hk with rfl | rfl
  all_goals
    go_enter Tryd.func71, Tryd.ntmps71
    go_wp2
    go_ret
    exact ⟨rfl, rfl⟩
end Go.Proofs.YtnjedigjabijcaaDoor
