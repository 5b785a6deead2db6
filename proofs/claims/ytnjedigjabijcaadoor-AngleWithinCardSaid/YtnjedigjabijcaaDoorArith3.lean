import Derived.Test.YtnjedigjabijcaaDoorArith2
namespace Go.Proofs.YtnjedigjabijcaaDoor
open Go Go.RowKit

def acc4 (q : Nat → Int × Int) : Nat → Int × Int
  | 0 => q 0
  | 1 => q 0
  | k + 1 => hullS (acc4 q k) (q k)
theorem acc4_step (q : Nat → Int × Int) (k : Nat) (h : 1 ≤ k) : acc4 q (k + 1) = hullS (acc4 q k) (q k) := by
  cases k with
  | zero => omega
  | succ k => rfl
structure Four (V : World) (b : Nat) (f : Nat → Int) : Prop where
  lies : b < V.heap.size
  cell : ∀ i, i < 4 → V.cell? ⟨b, i, none⟩ = some (.int .i64 (f i))
theorem Four.new (V : World) (f : Nat → Int) (T : TypeId) : Four (V.alloc (.cells #[.int .i64 (f 0), .int .i64 (f 1), .int .i64 (f 2), .int .i64 (f 3)] T)) V.heap.size f := by
  refine ⟨by simp, fun i hi => ?_⟩
  have : i = 0 ∨ i = 1 ∨ i = 2 ∨ i = 3 := by omega
  rcases this with rfl | rfl | rfl | rfl <;> simp [go_sem]
theorem Four.next {V V' : World} {b : Nat} {f : Nat → Int} (h : Four V b f) (hB : Below V.heap.size V V') : Four V' b f :=
  ⟨Nat.lt_of_lt_of_le h.lies hB.size, fun i hi => by rw [hB.cell h.lies, h.cell i hi]⟩

theorem Four.drawn {V : World} {b : Nat} {f : Nat → Int} (h : Four V b f) (n : Nat) : Four (V.drewN n) b f := ⟨h.lies, h.cell⟩
def LeastRel (q : Nat → Int × Int) (w : World) (n d : Nat → Int) (lo hi i : Value) (wr : World) : Prop :=
  ∃ k : Nat, 1 ≤ k ∧ k ≤ 4 ∧ lo = .int .i64 (acc4 q k).1 ∧ hi = .int .i64 (acc4 q k).2 ∧ i = .int .i64 k ∧ Below w.heap.size w wr ∧ Four wr w.heap.size n ∧ Four wr (w.heap.size + 1) d
theorem least_step (q : Nat → Int × Int) (w wr : World) (n d : Nat → Int) (k : Nat) (a b : Int) (h1 : 1 ≤ k) (h2 : k < 4) (ha : q k = (a, b)) (hB : Below w.heap.size w wr) (hn : Four wr w.heap.size n) (hd : Four wr (w.heap.size + 1) d) (m : Nat) :
    LeastRel q w n d (.int .i64 (min (acc4 q k).1 a)) (.int .i64 (max (acc4 q k).2 b)) (.int .i64 ((k : Int) + 1)) (wr.drewN m) := by
  refine ⟨k + 1, by omega, by omega, ?_, ?_, by go_num, below_drawn hB m, hn.drawn m, hd.drawn m⟩
  · rw [acc4_step q k h1, ha]; rfl
  · rw [acc4_step q k h1, ha]; rfl

set_option maxHeartbeats 4000000 in
theorem least_any (n d : Nat → Int) (hn : ∀ i, i < 4 → -9223372036854775807 ≤ n i ∧ n i ≤ 9223372036854775807) (hd : ∀ i, i < 4 → 1 ≤ d i) (w : World) :
    Calls Tryd.prog 64 #[.agg #[.int .i64 (n 0), .int .i64 (n 1), .int .i64 (n 2), .int .i64 (n 3)], .agg #[.int .i64 (d 0), .int .i64 (d 1), .int .i64 (d 2), .int .i64 (d 3)]] w
      fun e w' => e = .returned (.tuple #[.int .i64 (acc4 (fun i => quoP (n i) (d i)) 4).1, .int .i64 (acc4 (fun i => quoP (n i) (d i)) 4).2]) ∧ Below w.heap.size w w' := by
  have FN := (Four.new w n 65).next (alloc_below _ (.cells #[.int .i64 (d 0), .int .i64 (d 1), .int .i64 (d 2), .int .i64 (d 3)] 65))
  have FD := Four.new (w.alloc (.cells #[.int .i64 (n 0), .int .i64 (n 1), .int .i64 (n 2), .int .i64 (n 3)] 65)) d 65
  have HW := Lib.hid (below_alloc (alloc_below w (.cells #[.int .i64 (n 0), .int .i64 (n 1), .int .i64 (n 2), .int .i64 (n 3)] 65)) (.cells #[.int .i64 (d 0), .int .i64 (d 1), .int .i64 (d 2), .int .i64 (d 3)] 65))
  simp only [World.size_alloc] at FD
  have b0 := hn 0 (by omega)
  have b1 := hd 0 (by omega)
  have bd := floor_bd (n 0) (d 0) b1 b0.1 b0.2
  have bd' := floor_bd (-n 0) (d 0) b1 (by omega) (by omega)
  obtain ⟨b2, b3⟩ := b0
  have hw1 : IntKind.i64.wrap (-n 0) = -n 0 := IntWalk.i64_in _ (by omega)
  have hw2 : IntKind.i64.wrap (-(-n 0 / d 0)) = -(-n 0 / d 0) := IntWalk.i64_in _ (by omega)
  go_enter Tryd.func64, Tryd.ntmps64
  go_wp2_with fail
  go_quiet ((go_at_call 85; exact Calls.quiet_of_same ((rdown_any _ _ (by omega) (by omega) (by omega) _).mono fun _ _ ⟨h, h'⟩ => ⟨h, h'.symm⟩)))
  clear hw1 hw2 b1 b2 b3 bd bd'
  go_wp2_with fail
  generalize (w.alloc (.cells #[.int .i64 (n 0), .int .i64 (n 1), .int .i64 (n 2), .int .i64 (n 3)] 65)).alloc (.cells #[.int .i64 (d 0), .int .i64 (d 1), .int .i64 (d 2), .int .i64 (d 3)] 65) = V at *
  go_loopw [6, 7, 8] (fun lo hi i wr => LeastRel (fun i => quoP (n i) (d i)) w n d lo hi i wr) (fun _ _ i _ => 4 - (intOf i).toNat)
  case atStart => exact ⟨1, by omega, by omega, rfl, rfl, rfl, below_drawn HW.out _, FN.drawn _, FD.drawn _⟩
  case round =>
    clear FN FD
    obtain ⟨k, k1, k4, rfl, rfl, rfl, hB, FN, FD⟩ := hrel
    have hk : k = 1 ∨ k = 2 ∨ k = 3 ∨ k = 4 := by omega
    rcases hk with rfl | rfl | rfl | rfl
    · have cn := FN.cell 1 (by omega)
      have cd := FD.cell 1 (by omega)
      have b0 := hn 1 (by omega)
      have b1 := hd 1 (by omega)
      have bd := floor_bd (n 1) (d 1) b1 b0.1 b0.2
      have bd' := floor_bd (-n 1) (d 1) b1 (by omega) (by omega)
      obtain ⟨b2, b3⟩ := b0
      have hw1 : IntKind.i64.wrap (-n 1) = -n 1 := IntWalk.i64_in _ (by omega)
      have hw2 : IntKind.i64.wrap (-(-n 1 / d 1)) = -(-n 1 / d 1) := IntWalk.i64_in _ (by omega)
      have F := Lib.hid (least_step (fun i => quoP (n i) (d i)) w wr n d 1 (n 1 / d 1) (-(-n 1 / d 1)) (by omega) (by omega) rfl hB FN FD)
      generalize acc4 (fun i => quoP (n i) (d i)) 1 = p at *
      have e : ((1 : Nat) : Int) = 1 := rfl
      rw [e] at F ⊢
      clear e k1 k4 FN FD hn hd hB HW
      go_wp2_with fail
      go_quiet ((go_at_call 85; exact Calls.quiet_of_same ((rdown_any _ _ (by omega) (by omega) (by omega) _).mono fun _ _ ⟨h, h'⟩ => ⟨h, h'.symm⟩)))
      clear hw1 hw2
      go_wp2_with fail
      go_roundw
      case rel => exact F.out _
      case measure => simp [intOf]
    · have cn := FN.cell 2 (by omega)
      have cd := FD.cell 2 (by omega)
      have b0 := hn 2 (by omega)
      have b1 := hd 2 (by omega)
      have bd := floor_bd (n 2) (d 2) b1 b0.1 b0.2
      have bd' := floor_bd (-n 2) (d 2) b1 (by omega) (by omega)
      obtain ⟨b2, b3⟩ := b0
      have hw1 : IntKind.i64.wrap (-n 2) = -n 2 := IntWalk.i64_in _ (by omega)
      have hw2 : IntKind.i64.wrap (-(-n 2 / d 2)) = -(-n 2 / d 2) := IntWalk.i64_in _ (by omega)
      have F := Lib.hid (least_step (fun i => quoP (n i) (d i)) w wr n d 2 (n 2 / d 2) (-(-n 2 / d 2)) (by omega) (by omega) rfl hB FN FD)
      generalize acc4 (fun i => quoP (n i) (d i)) 2 = p at *
      have e : ((2 : Nat) : Int) = 2 := rfl
      rw [e] at F ⊢
      clear e k1 k4 FN FD hn hd hB HW
      go_wp2_with fail
      go_quiet ((go_at_call 85; exact Calls.quiet_of_same ((rdown_any _ _ (by omega) (by omega) (by omega) _).mono fun _ _ ⟨h, h'⟩ => ⟨h, h'.symm⟩)))
      clear hw1 hw2
      go_wp2_with fail
      go_roundw
      case rel => exact F.out _
      case measure => simp [intOf]
    · have cn := FN.cell 3 (by omega)
      have cd := FD.cell 3 (by omega)
      have b0 := hn 3 (by omega)
      have b1 := hd 3 (by omega)
      have bd := floor_bd (n 3) (d 3) b1 b0.1 b0.2
      have bd' := floor_bd (-n 3) (d 3) b1 (by omega) (by omega)
      obtain ⟨b2, b3⟩ := b0
      have hw1 : IntKind.i64.wrap (-n 3) = -n 3 := IntWalk.i64_in _ (by omega)
      have hw2 : IntKind.i64.wrap (-(-n 3 / d 3)) = -(-n 3 / d 3) := IntWalk.i64_in _ (by omega)
      have F := Lib.hid (least_step (fun i => quoP (n i) (d i)) w wr n d 3 (n 3 / d 3) (-(-n 3 / d 3)) (by omega) (by omega) rfl hB FN FD)
      generalize acc4 (fun i => quoP (n i) (d i)) 3 = p at *
      have e : ((3 : Nat) : Int) = 3 := rfl
      rw [e] at F ⊢
      clear e k1 k4 FN FD hn hd hB HW
      go_wp2_with fail
      go_quiet ((go_at_call 85; exact Calls.quiet_of_same ((rdown_any _ _ (by omega) (by omega) (by omega) _).mono fun _ _ ⟨h, h'⟩ => ⟨h, h'.symm⟩)))
      clear hw1 hw2
      go_wp2_with fail
      go_roundw
      case rel => exact F.out _
      case measure => simp [intOf]
    · generalize hp : acc4 (fun i => quoP (n i) (d i)) 4 = p at *
      have e : ((4 : Nat) : Int) = 4 := rfl
      rw [e]
      have HB := Lib.hid hB
      have E := Lib.hid hp
      clear e k1 k4 FN FD hn hd hB HW hp
      go_wp2_with fail
      go_ret2
      exact ⟨by rw [E.out]; rfl, HB.out⟩
end Go.Proofs.YtnjedigjabijcaaDoor
