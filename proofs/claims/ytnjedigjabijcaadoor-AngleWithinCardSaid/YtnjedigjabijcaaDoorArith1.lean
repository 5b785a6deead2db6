import Derived.Test.YtnjedigjabijcaaDoorArithMath
import Derived.Deep.QuietTactic
import Derived.BigQuiet
namespace Go.Proofs.YtnjedigjabijcaaDoor
open Go Go.RowKit

def valE (l : List (Int × Int)) : Int := if l.all (fun p => inB p.1 p.2 (-3000000000) 3000000000) then 0 else 7
theorem valE_no {l : List (Int × Int)} {k : Nat} (h : k < l.length) (hb : inB l[k].1 l[k].2 (-3000000000) 3000000000 = false) : valE l = 7 := by
  unfold valE
  rw [if_neg]
  intro hall
  have := List.all_eq_true.1 hall l[k] (List.getElem_mem h)
  simp [hb] at this
theorem valE_yes {l : List (Int × Int)} (h : ∀ j (hj : j < l.length), inB l[j].1 l[j].2 (-3000000000) 3000000000 = true) : valE l = 0 := by
  unfold valE
  rw [if_pos]
  rw [List.all_eq_true]
  intro p hp
  obtain ⟨j, hj, rfl⟩ := List.mem_iff_getElem.1 hp
  exact h j hj
theorem ret_num {k : IntKind} {a b : Int} (h : a = b) : Ending.returned (.int k a) = .returned (.int k b) := by rw [h]

def ValRel (w : World) (l : List (Int × Int)) (i : Value) (wr : World) : Prop :=
  ∃ k : Nat, k ≤ l.length ∧ i = .int .i64 k ∧ Below w.heap.size w wr ∧ ∀ j (hj : j < l.length), j < k → inB l[j].1 l[j].2 (-3000000000) 3000000000 = true
theorem val_step {w wr : World} {l : List (Int × Int)} {k : Nat} (h : k < l.length) (hB : Below w.heap.size w wr) (hj : ∀ j (hj : j < l.length), j < k → inB l[j].1 l[j].2 (-3000000000) 3000000000 = true)
    (hb : inB l[k].1 l[k].2 (-3000000000) 3000000000 = true) (n : Nat) : ValRel w l (.int .i64 ((k : Int) + 1)) (wr.drewN n) := by
  refine ⟨k + 1, h, by go_num, ⟨hB.os, hB.tape, hB.output, hB.size, hB.block⟩, fun j hjl hjk => ?_⟩
  rcases Nat.lt_or_eq_of_le (Nat.le_of_lt_succ hjk) with h1 | h1
  · exact hj j hjl h1
  · subst h1; exact hb
theorem below_drawn {w wr : World} (hB : Below w.heap.size w wr) (n : Nat) : Below w.heap.size w (wr.drewN n) := ⟨hB.os, hB.tape, hB.output, hB.size, hB.block⟩

set_option maxHeartbeats 2000000 in
theorem valued_any (b off cap : Nat) (l : List (Int × Int)) (hl : l.length ≤ 1000) (w : World) (hr : Row2 w b off l) :
    Calls Tryd.prog 55 #[.slice (some ⟨b, off, none⟩) l.length cap] w fun e w' => e = .returned (.int .i64 (valE l)) ∧ Below w.heap.size w w' := by
  go_enter Tryd.func55, Tryd.ntmps55
  go_wp2
  go_loopw [3] (fun i wr => ValRel w l i wr) (fun i wr => l.length - (intOf i).toNat)
  case atStart => exact ⟨0, Nat.zero_le _, rfl, Below.refl _ _, fun j _ h => absurd h (Nat.not_lt_zero _)⟩
  case round =>
    obtain ⟨k, hk, rfl, hB, hj⟩ := hrel
    by_cases hlt : k < l.length
    · obtain ⟨c0, c1⟩ := (hr.below hB hr.1).2 k hlt
      have hk64 : (k : Int) < (l.length : Int) := by omega
      cases hc : inB l[k].1 l[k].2 (-3000000000) 3000000000
      · have E := Lib.hid (valE_no hlt hc)
        have D : l[k].2 < l[k].1 ∨ (¬ l[k].2 < l[k].1 ∧ l[k].1 < -3000000000) ∨ (¬ l[k].2 < l[k].1 ∧ ¬ l[k].1 < -3000000000 ∧ 3000000000 < l[k].2) := by
          rw [inB_eq] at hc
          have := of_decide_eq_false hc
          omega
        have HB := Lib.hid hB
        clear hc hj hB hr
        rcases D with d1 | ⟨d1, d2⟩ | ⟨d1, d2, d3⟩
        all_goals
          go_wp2_with fail
          go_quiet (fail)
          go_wp2_with fail
          go_ret
          exact ⟨ret_num (by rw [E.out]), below_drawn HB.out _⟩
      · obtain ⟨i1, i2, i3⟩ := inB_yes hc
        have F := Lib.hid (val_step hlt hB hj hc)
        have d1 : ¬ l[k].2 < l[k].1 := by omega
        have d2 : ¬ l[k].1 < -3000000000 := by omega
        have d3 : ¬ 3000000000 < l[k].2 := by omega
        clear hc hj hB hr i1 i2 i3
        go_wp2_with fail
        go_quiet (fail)
        go_wp2_with fail
        go_roundw
        case rel => exact F.out _
        case measure => simp [intOf]; omega
    · have E := Lib.hid (valE_yes (l := l) fun j h => hj j h (by omega))
      have HB := Lib.hid hB
      have hk64 : ¬ (k : Int) < (l.length : Int) := by omega
      clear hj hB hr
      go_wp2
      go_ret
      exact ⟨ret_num (by rw [E.out]), HB.out⟩
end Go.Proofs.YtnjedigjabijcaaDoor
