import Derived.Test.YtnjedigjabijcaaDoorSine8
import Derived.Deep.LoopGhost
namespace Go.Proofs.YtnjedigjabijcaaDoor
open Go Go.RowKit

/-- Whether the sine of an angle is not below v. -/
def highB (v i : Int) : Bool := decide (v ≤ (sineE (i - 90000000)).1)

set_option maxRecDepth 100000 in
set_option maxHeartbeats 1000000 in
theorem arcFn_any (i v : Int) (bv : Nat) (h0 : 0 ≤ i) (h1 : i ≤ 180000000) (w : World) (hv : w.cell? ⟨bv, 0, none⟩ = some (.int .i64 v)) :
    Calls Tryd.prog 79 #[.int .i64 i, .pointer (some ⟨bv, 0, none⟩)] w fun e w' => e = .returned (.bool (highB v i)) ∧ Below w.heap.size w w' := by
  have lb := World.block_lt_of_cell? w _ hv
  have C := fun w => sine_any (i - 90000000) (by omega) (by omega) w
  have HC := Lib.hid C
  clear C
  have hfld : ∀ (x y : Value) (w : World), (Instr.field 23 (.agg #[x, y]) 0).run Tryd.prog w = .ok x w := fun _ _ _ => by kernel_rfl
  have hw : IntKind.i64.wrap (i - 90000000) = i - 90000000 := IntWalk.i64_in _ (by omega)
  go_enter Tryd.func79, Tryd.ntmps79
  go_wp2_with fail
  go_region_held3 (fun w' => w'.cell? ⟨bv, 0, none⟩ = some (.int .i64 v))
    (first
      | assumption
      | exact keep_cell (by assumption) (by assumption) (by first | assumption | (simp; done)))
    (first
      | (go_at_call 75; refine (HC.out _).mono ?_; rintro e w2 ⟨rfl, hB2⟩))
  clear hw hfld
  go_wp2
  go_ret
  exact ⟨rfl, by first | exact hB2 | exact undrew hB2⟩

/-- Go's search by halves, in at most so many rounds. -/
def bis (p : Nat → Bool) : Nat → Nat → Nat → Nat
  | 0, lo, _ => lo
  | f + 1, lo, hi => if lo < hi then (if p ((lo + hi) / 2) then bis p f lo ((lo + hi) / 2) else bis p f ((lo + hi) / 2 + 1) hi) else lo

theorem bis_done (p : Nat → Bool) (f lo hi : Nat) (h : ¬ lo < hi) : bis p f lo hi = lo := by
  cases f with
  | zero => rfl
  | succ f => unfold bis; rw [if_neg h]
theorem bis_yes (p : Nat → Bool) (f lo hi : Nat) (h : lo < hi) (hp : p ((lo + hi) / 2) = true) : bis p (f + 1) lo hi = bis p f lo ((lo + hi) / 2) := by
  conv => lhs; unfold bis
  rw [if_pos h, if_pos hp]
theorem bis_no (p : Nat → Bool) (f lo hi : Nat) (h : lo < hi) (hp : p ((lo + hi) / 2) = false) : bis p (f + 1) lo hi = bis p f ((lo + hi) / 2 + 1) hi := by
  conv => lhs; unfold bis
  rw [if_pos h, if_neg (by rw [hp]; decide)]

def highN (v : Int) (i : Nat) : Bool := highB v i
/-- The first angle, from -90 degrees on, counted from there, whose sine is not below v. -/
def arcN (v : Int) : Nat := bis (highN v) 28 0 180000000

theorem bis_le (p : Nat → Bool) : ∀ f lo hi : Nat, lo ≤ hi → bis p f lo hi ≤ hi
  | 0, lo, hi, h => h
  | f + 1, lo, hi, h => by
    unfold bis
    split
    · split
      · exact Nat.le_trans (bis_le p f lo ((lo + hi) / 2) (by omega)) (by omega)
      · exact bis_le p f ((lo + hi) / 2 + 1) hi (by omega)
    · exact h
theorem arcN_le (v : Int) : arcN v ≤ 180000000 := bis_le _ _ _ _ (by omega)

def SearchRel (v : Int) (w : World) (s5 s6 : Value) (wr : World) : Prop :=
  ∃ f lo hi : Nat, s5 = .int .i64 lo ∧ s6 = .int .i64 hi ∧ lo ≤ hi ∧ hi ≤ 180000000 ∧ hi - lo < 2 ^ f ∧ bis (highN v) f lo hi = arcN v ∧ Below w.heap.size w wr

theorem search_yes {v : Int} {w wr w' : World} {f lo hi : Nat} (hlt : lo < hi) (hin : hi ≤ 180000000) (hf : hi - lo < 2 ^ f) (hb : bis (highN v) f lo hi = arcN v) (hB : Below w.heap.size w wr) (hB' : Below wr.heap.size wr w') (hp : highN v ((lo + hi) / 2) = true) :
    SearchRel v w (.int .i64 lo) (.int .i64 (((lo : Int) + hi) / 2)) w' := by
  cases f with
  | zero => exact absurd hf (by simp; omega)
  | succ f =>
    rw [bis_yes _ _ _ _ hlt hp] at hb
    exact ⟨f, lo, (lo + hi) / 2, rfl, by go_num, by omega, by omega, by rw [Nat.pow_succ] at hf; omega, hb, hB.trans (hB'.mono hB.size)⟩
theorem search_no {v : Int} {w wr w' : World} {f lo hi : Nat} (hlt : lo < hi) (hin : hi ≤ 180000000) (hf : hi - lo < 2 ^ f) (hb : bis (highN v) f lo hi = arcN v) (hB : Below w.heap.size w wr) (hB' : Below wr.heap.size wr w') (hp : highN v ((lo + hi) / 2) = false) :
    SearchRel v w (.int .i64 (((lo : Int) + hi) / 2 + 1)) (.int .i64 hi) w' := by
  cases f with
  | zero => exact absurd hf (by simp; omega)
  | succ f =>
    rw [bis_no _ _ _ _ hlt hp] at hb
    exact ⟨f, (lo + hi) / 2 + 1, hi, by go_num, rfl, by omega, by omega, by rw [Nat.pow_succ] at hf; omega, hb, hB.trans (hB'.mono hB.size)⟩

set_option maxHeartbeats 2000000 in
theorem search_any (v : Int) (bv : Nat) (w : World) (hv : w.cell? ⟨bv, 0, none⟩ = some (.int .i64 v)) :
    Calls Tryd.prog 80 #[.int .i64 180000000, .func (.func 79) #[] #[.pointer (some ⟨bv, 0, none⟩)]] w fun e w' => e = .returned (.int .i64 ((arcN v : Nat) : Int)) ∧ Below w.heap.size w w' := by
  have lb := World.block_lt_of_cell? w _ hv
  have eg : ∀ args w, (callFunc 79 args).run Tryd.prog w = .ok (.enter 79 args) w := enters_of Tryd.func79 (by kernel_rfl) rfl
  go_enter Tryd.func80, Tryd.ntmps80
  go_wp2
  go_loopw [5, 6] (fun s5 s6 wr => SearchRel v w s5 s6 wr) (fun s5 s6 wr => (intOf s6).toNat - (intOf s5).toNat)
  case atStart => exact ⟨28, 0, 180000000, rfl, rfl, by omega, by omega, by decide, rfl, Below.refl _ _⟩
  case round =>
    obtain ⟨f, lo, hi, rfl, rfl, hle, hin, hf, hb, hB⟩ := hrel
    by_cases hlt : lo < hi
    · have hc := arcFn_any (((lo + hi) / 2 : Nat) : Int) v bv (by omega) (by omega) wr (keep_cell hB hv lb)
      rw [show (((lo + hi) / 2 : Nat) : Int) = ((lo : Int) + (hi : Int)) / 2 by omega] at hc
      have hY := Lib.hid (fun w' h hp => search_yes (w' := w') hlt hin hf hb hB h hp)
      have hN := Lib.hid (fun w' h hp => search_no (w' := w') hlt hin hf hb hB h hp)
      have ep : highB v (((lo : Int) + (hi : Int)) / 2) = highN v ((lo + hi) / 2) := by unfold highN; congr 1
      rw [ep] at hc
      have HC := Lib.hid hc
      clear hc ep hb hf hB hv
      cases hp : highN v ((lo + hi) / 2)
      · rw [hp] at HC
        have HP := Lib.hid hp
        clear hp hY
        go_wp2_with (go_at_fn 79; refine HC.out.mono ?_; rintro e w' ⟨rfl, hB'⟩)
        go_roundw
        case rel => exact hN.out _ hB' HP.out
        case measure => simp [intOf]; omega
      · rw [hp] at HC
        have HP := Lib.hid hp
        clear hp hN
        go_wp2_with (go_at_fn 79; refine HC.out.mono ?_; rintro e w' ⟨rfl, hB'⟩)
        go_roundw
        case rel => exact hY.out _ hB' HP.out
        case measure => simp [intOf]; omega
    · rw [bis_done _ _ _ _ hlt] at hb
      have HB := Lib.hid hb
      clear hb
      go_wp2
      go_ret
      exact ⟨ret_int (by rw [HB.out]), hB⟩

set_option maxHeartbeats 1000000 in
theorem arcUp_any (v : Int) (w : World) :
    Calls Tryd.prog 53 #[.int .i64 v] w fun e w' => e = .returned (.int .i64 ((arcN v : Nat) - 90000000 : Int)) ∧ Below w.heap.size w w' := by
  have hn := arcN_le v
  have hW : Below w.heap.size w (w.alloc (.cells #[.int .i64 v] 3)) := by go_grown
  have hcell : (w.alloc (.cells #[.int .i64 v] 3)).cell? ⟨w.heap.size, 0, none⟩ = some (.int .i64 v) := by rw [World.cell?_alloc_at _ _ _ _ (by simp)]; rfl
  have HS := Lib.hid (search_any v w.heap.size _ hcell)
  clear hcell
  go_enter Tryd.func53, Tryd.ntmps53
  go_wp2_with fail
  refine HS.out.mono ?_
  rintro e w1 ⟨rfl, hB1⟩
  have HB := Lib.hid (hW.trans (hB1.mono hW.size))
  clear hW hB1
  go_wp2
  go_ret
  exact ⟨rfl, HB.out⟩
end Go.Proofs.YtnjedigjabijcaaDoor
