import Derived.Test.YtnjedigjabijcaaDoorSinLong
import Derived.Test.YtnjedigjabijcaaDoorSinMath
namespace Go.Proofs.YtnjedigjabijcaaDoor
open Go Go.RowKit

def longV (v : Nat) : Value := longF (dg v)
theorem longF_congr {f g : Nat → Nat} (h0 : f 0 = g 0) (h1 : f 1 = g 1) (h2 : f 2 = g 2) (h3 : f 3 = g 3) (h4 : f 4 = g 4) (h5 : f 5 = g 5) : longF f = longF g := by
  unfold longF
  rw [h0, h1, h2, h3, h4, h5]
theorem longF_eq (f : Nat → Nat) (h : Norm f) : longF f = longV (lv f) := by
  obtain ⟨a, b, c, d, e, g⟩ := dg_lv f h
  exact longF_congr a.symm b.symm c.symm d.symm e.symm g.symm
theorem dg_top (v : Nat) (h : v < 1000000000000000000000000000000000000000000000 * 1000000000) : dg v 0 < 1000000000 := by
  show v / 1000000000000000000000000000000000000000000000 < 1000000000
  omega
theorem plus_val (u v : Nat) (hu : u < 1000000000000000000000000000000000000000000000 * 1000000000) (hv : v < 1000000000000000000000000000000000000000000000 * 1000000000) (w : World) :
    Calls Tryd.prog 96 #[longV u, longV v] w fun e w' => e = .returned (longV (u + v)) ∧ Below w.heap.size w w' := by
  obtain ⟨n, l⟩ := sP_ok (dg u) (dg v) (dg_norm u) (dg_norm v)
  rw [lv_dg, lv_dg] at l
  have e := longF_eq _ n
  rw [l] at e
  rw [← e]
  exact plus_any (dg u) (dg v) (dg_norm u) (dg_norm v) (dg_top u hu) (dg_top v hv) w
theorem minus_val (u v : Nat) (hu : u < 1000000000000000000000000000000000000000000000 * 1000000000) (hv : v ≤ u) (w : World) :
    Calls Tryd.prog 97 #[longV u, longV v] w fun e w' => e = .returned (longV (u - v)) ∧ Below w.heap.size w w' := by
  obtain ⟨n, l, _⟩ := sM_ok (dg u) (dg v) (dg_norm u) (dg_norm v) (by rw [lv_dg, lv_dg]; exact hv)
  rw [lv_dg, lv_dg] at l
  have e := longF_eq _ n
  rw [l] at e
  rw [← e]
  exact minus_any (dg u) (dg v) (dg_norm u) (dg_norm v) (by rw [lv_dg, lv_dg]; exact hv) (dg_top u hu) (dg_top v (Nat.lt_of_le_of_lt hv hu)) w
theorem times_val (u v : Nat) (hu : u < 1000000000000000000000000000000000000000000000 * 1000000000) (hv : v < 1000000000000000000000000000000000000000000000 * 1000000000) (w : World) :
    Calls Tryd.prog 95 #[longV u, longV v] w fun e w' => e = .returned (longV (u * v / dD)) ∧ Below w.heap.size w w' := by
  obtain ⟨n, l⟩ := times_ok (dg u) (dg v)
  rw [lv_dg, lv_dg] at l
  have e := longF_eq _ n
  rw [l] at e
  show Calls _ _ _ _ fun e w' => e = .returned (longV (u * v / 1000000000000000000000000000000000000000000000)) ∧ _
  rw [← e]
  exact times_any (dg u) (dg v) (dg_norm u) (dg_norm v) (dg_top u hu) (dg_top v hv) w
theorem scaled_val (u n d : Nat) (hu : u < 1000000000000000000000000000000000000000000000 * 1000000000) (hn : n ≤ 90000000) (h1 : 1 ≤ n) (hd : d ≤ 180000000) (h0 : 1 ≤ d) (w : World) :
    Calls Tryd.prog 93 #[longV u, .int .i64 ((n : Nat) : Int), .int .i64 ((d : Nat) : Int)] w fun e w' => e = .returned (longV (u * n / d)) ∧ Below w.heap.size w w' := by
  obtain ⟨n1, l1⟩ := sS_ok (dg u) n (dg_norm u)
  obtain ⟨n2, l2⟩ := sD_ok (sS (dg u) n) d h0 n1
  rw [l1, lv_dg] at l2
  have e := longF_eq _ n2
  rw [l2] at e
  rw [← e]
  exact scaled_any (dg u) n d (dg_norm u) (dg_top u hu) h1 hn h0 hd w
theorem pi_eq : longV 3141592653589793238462643383279502884197169399 = .agg #[.int .i64 3, .int .i64 141592653, .int .i64 589793238, .int .i64 462643383, .int .i64 279502884, .int .i64 197169399] := by
  unfold longV longF
  simp only [dg]
  rw [show 3141592653589793238462643383279502884197169399 / 1000000000000000000000000000000000000000000000 = 3 by decide,
    show 3141592653589793238462643383279502884197169399 / 1000000000000000000000000000000000000 % 1000000000 = 141592653 by decide,
    show 3141592653589793238462643383279502884197169399 / 1000000000000000000000000000 % 1000000000 = 589793238 by decide,
    show 3141592653589793238462643383279502884197169399 / 1000000000000000000 % 1000000000 = 462643383 by decide,
    show 3141592653589793238462643383279502884197169399 / 1000000000 % 1000000000 = 279502884 by decide,
    show 3141592653589793238462643383279502884197169399 % 1000000000 = 197169399 by decide]
  rfl
set_option maxHeartbeats 400000 in
theorem pi_val (w : World) : Calls Tryd.prog 94 #[] w fun e w' => e = .returned (longV 3141592653589793238462643383279502884197169399) ∧ Below w.heap.size w w' := by
  have e := pi_eq
  rw [e]
  have SZ := RowN.zero w 94
  have HW := Lib.hid (alloc_below w (.cells #[.int .i64 0, .int .i64 0, .int .i64 0, .int .i64 0, .int .i64 0, .int .i64 0] 94))
  have HZ := Lib.hid SZ
  have t0 := SZ.free 0 (by omega)
  have t1 := SZ.free 1 (by omega)
  have t2 := SZ.free 2 (by omega)
  have t3 := SZ.free 3 (by omega)
  have t4 := SZ.free 4 (by omega)
  have t5 := SZ.free 5 (by omega)
  have s0 := SZ.cell 0 (by omega)
  have s1 := SZ.cell 1 (by omega)
  have s2 := SZ.cell 2 (by omega)
  have s3 := SZ.cell 3 (by omega)
  have s4 := SZ.cell 4 (by omega)
  have s5 := SZ.cell 5 (by omega)
  clear SZ e
  go_enter Tryd.func94, Tryd.ntmps94
  go_wp2_with fail
  refine bodyPost_ret (v := .agg #[.int .i64 3, .int .i64 141592653, .int .i64 589793238, .int .i64 462643383, .int .i64 279502884, .int .i64 197169399])
    (by simp [results, Tryd.results94, go_sem]) rfl ⟨rfl, alloc_below w _⟩
theorem sX_le (a : Nat) (ha : a ≤ 90000000) : sX a ≤ 2000000000000000000000000000000000000000000000 := by
  unfold sX
  omega
theorem sSq_le (a : Nat) (ha : a ≤ 90000000) : sSq a ≤ 3000000000000000000000000000000000000000000000 := by
  have x : sX a ≤ 1600000000000000000000000000000000000000000000 := by unfold sX; omega
  have m := Nat.mul_le_mul x x
  unfold sSq dD
  generalize sX a * sX a = s at *
  omega
theorem sTm_le (a : Nat) (ha : a ≤ 90000000) (k : Nat) : sTm a k ≤ 2000000000000000000000000000000000000000000000 := by
  induction k with
  | zero => exact sX_le a ha
  | succ k ih =>
    have q := sSq_le a ha
    have m := Nat.mul_le_mul_left (sTm a k) q
    have d : 6 ≤ 2 * (k + 1) * (2 * (k + 1) + 1) := Nat.le_trans (show 6 ≤ 2 * 3 by decide) (Nat.mul_le_mul (show 2 ≤ 2 * (k + 1) by omega) (show 3 ≤ 2 * (k + 1) + 1 by omega))
    show sTm a k * sSq a / dD * 1 / (2 * (k + 1) * (2 * (k + 1) + 1)) ≤ _
    have z : sTm a k * sSq a / dD * 1 ≤ 3 * sTm a k := by
      unfold dD
      generalize sTm a k * sSq a = s at *
      omega
    have y := Nat.div_le_div_left (a := sTm a k * sSq a / dD * 1) d (by decide)
    have x := Nat.div_le_div_right (c := 6) z
    omega
theorem sUp_le (a : Nat) (ha : a ≤ 90000000) (k : Nat) : sUp a k ≤ (k + 1) * 2000000000000000000000000000000000000000000000 ∧ sDn a k ≤ (k + 1) * 2000000000000000000000000000000000000000000000 := by
  induction k with
  | zero => exact ⟨by rw [Nat.zero_add, Nat.one_mul]; exact sX_le a ha, Nat.zero_le _⟩
  | succ k ih =>
    have t := sTm_le a ha (k + 1)
    obtain ⟨i1, i2⟩ := ih
    unfold sUp sDn
    rw [Nat.succ_mul (k + 1)]
    constructor
    · split
      · exact Nat.add_le_add i1 t
      · exact Nat.le_trans i1 (Nat.le_add_right _ _)
    · split
      · exact Nat.le_trans i2 (Nat.le_add_right _ _)
      · exact Nat.add_le_add i2 t
end Go.Proofs.YtnjedigjabijcaaDoor

namespace Go.Proofs.YtnjedigjabijcaaDoor
open Go Go.RowKit

theorem scaled_x (n : Nat) (h1 : 1 ≤ n) (hn : n ≤ 90000000) (w : World) :
    Calls Tryd.prog 93 #[longV 3141592653589793238462643383279502884197169399, .int .i64 ((n : Nat) : Int), .int .i64 180000000] w fun e w' => e = .returned (longV (sX n)) ∧ Below w.heap.size w w' :=
  scaled_val 3141592653589793238462643383279502884197169399 n 180000000 (by decide) hn h1 (by decide) (by decide) w
theorem scaled_t (u k : Nat) (d : Int) (hu : u < 1000000000000000000000000000000000000000000000 * 1000000000) (h1 : 1 ≤ k) (hk : k ≤ 20) (hd : d = ((2 * k * (2 * k + 1) : Nat) : Int)) (w : World) :
    Calls Tryd.prog 93 #[longV u, .int .i64 1, .int .i64 d] w fun e w' => e = .returned (longV (u * 1 / (2 * k * (2 * k + 1)))) ∧ Below w.heap.size w w' := by
  subst hd
  have a : 2 * k * (2 * k + 1) ≤ 40 * 41 := Nat.mul_le_mul (by omega) (by omega)
  have b : 0 < 2 * k * (2 * k + 1) := Nat.mul_pos (by omega) (by omega)
  exact scaled_val u 1 (2 * k * (2 * k + 1)) hu (by decide) (by decide) (by omega) (by omega) w
theorem times_sq (n : Nat) (hn : n ≤ 90000000) (w : World) :
    Calls Tryd.prog 95 #[longV (sX n), longV (sX n)] w fun e w' => e = .returned (longV (sSq n)) ∧ Below w.heap.size w w' :=
  times_val (sX n) (sX n) (by have := sX_le n hn; omega) (by have := sX_le n hn; omega) w
theorem times_tm (n k : Nat) (hn : n ≤ 90000000) (w : World) :
    Calls Tryd.prog 95 #[longV (sTm n k), longV (sSq n)] w fun e w' => e = .returned (longV (sTm n k * sSq n / dD)) ∧ Below w.heap.size w w' :=
  times_val (sTm n k) (sSq n) (by have := sTm_le n hn k; omega) (by have := sSq_le n hn; omega) w
/-- A block with a number's parts. -/
def Has (V : World) (b v : Nat) : Prop := RowN V b 6 (fun i => ((dg v i : Nat) : Int))
theorem Has.next {V V' : World} {b v : Nat} (h : Has V b v) (hB : Below V.heap.size V V') : Has V' b v := RowN.next h hB
theorem Has.alloc {V : World} {b v : Nat} (h : Has V b v) (o : Obj) : Has (V.alloc o) b v := RowN.alloc h o
theorem Has.new (V : World) (v : Nat) (T : TypeId) : Has (V.alloc (.cells #[.int .i64 ((dg v 0 : Nat) : Int), .int .i64 ((dg v 1 : Nat) : Int), .int .i64 ((dg v 2 : Nat) : Int), .int .i64 ((dg v 3 : Nat) : Int), .int .i64 ((dg v 4 : Nat) : Int), .int .i64 ((dg v 5 : Nat) : Int)] T)) V.heap.size v := RowN.six V (dg v) T
theorem Has.lt {V : World} {b v : Nat} (h : Has V b v) : b < V.heap.size := h.lies
/-- The cells of such a block, for the walk. -/
theorem Has.cells {V : World} {b v : Nat} (h : Has V b v) :
    V.cell? ⟨b, 0, none⟩ = some (.int .i64 ((dg v 0 : Nat) : Int)) ∧ V.cell? ⟨b, 1, none⟩ = some (.int .i64 ((dg v 1 : Nat) : Int)) ∧ V.cell? ⟨b, 2, none⟩ = some (.int .i64 ((dg v 2 : Nat) : Int)) ∧
    V.cell? ⟨b, 3, none⟩ = some (.int .i64 ((dg v 3 : Nat) : Int)) ∧ V.cell? ⟨b, 4, none⟩ = some (.int .i64 ((dg v 4 : Nat) : Int)) ∧ V.cell? ⟨b, 5, none⟩ = some (.int .i64 ((dg v 5 : Nat) : Int)) :=
  ⟨h.cell 0 (by omega), h.cell 1 (by omega), h.cell 2 (by omega), h.cell 3 (by omega), h.cell 4 (by omega), h.cell 5 (by omega)⟩
theorem Has.frees {V : World} {b v : Nat} (h : Has V b v) :
    V.frozen? ⟨b, 0, none⟩ = false ∧ V.frozen? ⟨b, 1, none⟩ = false ∧ V.frozen? ⟨b, 2, none⟩ = false ∧ V.frozen? ⟨b, 3, none⟩ = false ∧ V.frozen? ⟨b, 4, none⟩ = false ∧ V.frozen? ⟨b, 5, none⟩ = false :=
  ⟨h.free 0 (by omega), h.free 1 (by omega), h.free 2 (by omega), h.free 3 (by omega), h.free 4 (by omega), h.free 5 (by omega)⟩
theorem Has.newAt (V : World) (b v : Nat) (T : TypeId) (hb : b = V.heap.size) : Has (V.alloc (.cells #[.int .i64 ((dg v 0 : Nat) : Int), .int .i64 ((dg v 1 : Nat) : Int), .int .i64 ((dg v 2 : Nat) : Int), .int .i64 ((dg v 3 : Nat) : Int), .int .i64 ((dg v 4 : Nat) : Int), .int .i64 ((dg v 5 : Nat) : Int)] T)) b v := by
  subst hb
  exact Has.new V v T
theorem Has.newZ (V : World) (b : Nat) (T : TypeId) (hb : b = V.heap.size) : Has (V.alloc (.cells #[.int .i64 0, .int .i64 0, .int .i64 0, .int .i64 0, .int .i64 0, .int .i64 0] T)) b 0 := by
  subst hb
  refine (RowN.zero V T).congr fun i hi => ?_
  have : i = 0 ∨ i = 1 ∨ i = 2 ∨ i = 3 ∨ i = 4 ∨ i = 5 := by omega
  rcases this with rfl | rfl | rfl | rfl | rfl | rfl <;> rfl
theorem Has.drew {V : World} {b v : Nat} (h : Has V b v) : Has V.drew b v := RowN.drew h
theorem scaled_tm (n m : Nat) (d : Int) (hn : n ≤ 90000000) (hm : m < 20) (hd : d = ((2 * (m + 1) * (2 * (m + 1) + 1) : Nat) : Int)) (w : World) :
    Calls Tryd.prog 93 #[longV (sTm n m * sSq n / dD), .int .i64 1, .int .i64 d] w fun e w' => e = .returned (longV (sTm n (m + 1))) ∧ Below w.heap.size w w' := by
  have q := sSq_le n hn
  have t := sTm_le n hn m
  have p := Nat.mul_le_mul t q
  refine scaled_t (sTm n m * sSq n / dD) (m + 1) d ?_ (by omega) (by omega) hd w
  unfold dD
  generalize sTm n m * sSq n = x at *
  omega
def SteepRel (n : Nat) (w : World) (bs b1 b2 b3 : Nat) (k : Value) (wr : World) : Prop :=
  ∃ m : Nat, m ≤ 20 ∧ k = .int .i64 ((m + 1 : Nat) : Int) ∧ Below w.heap.size w wr ∧ Slot2 wr w.heap.size (.int .i64 0) (.int .i64 0) ∧ Has wr bs (sSq n) ∧ Has wr b1 (sUp n m) ∧ Has wr b2 (sDn n m) ∧ Has wr b3 (sTm n m)
theorem up_even (n m : Nat) (h : (m + 1) % 2 = 0) : sUp n m + sTm n (m + 1) = sUp n (m + 1) ∧ sDn n m = sDn n (m + 1) := ⟨(if_pos h).symm, (if_pos h).symm⟩
theorem up_odd (n m : Nat) (h : ¬ (m + 1) % 2 = 0) : sUp n m = sUp n (m + 1) ∧ sDn n m + sTm n (m + 1) = sDn n (m + 1) := ⟨(if_neg h).symm, (if_neg h).symm⟩
theorem plus_up (n m : Nat) (hn : n ≤ 90000000) (hm : m < 20) (w : World) :
    Calls Tryd.prog 96 #[longV (sUp n m), longV (sTm n (m + 1))] w fun e w' => e = .returned (longV (sUp n m + sTm n (m + 1))) ∧ Below w.heap.size w w' := by
  have a := (sUp_le n hn m).1
  have b := sTm_le n hn (m + 1)
  have c := Nat.mul_le_mul_right 2000000000000000000000000000000000000000000000 (show m + 1 ≤ 20 by omega)
  exact plus_val _ _ (Nat.lt_of_le_of_lt (Nat.le_trans a c) (by decide)) (Nat.lt_of_le_of_lt b (by decide)) w
theorem plus_dn (n m : Nat) (hn : n ≤ 90000000) (hm : m < 20) (w : World) :
    Calls Tryd.prog 96 #[longV (sDn n m), longV (sTm n (m + 1))] w fun e w' => e = .returned (longV (sDn n m + sTm n (m + 1))) ∧ Below w.heap.size w w' := by
  have a := (sUp_le n hn m).2
  have b := sTm_le n hn (m + 1)
  have c := Nat.mul_le_mul_right 2000000000000000000000000000000000000000000000 (show m + 1 ≤ 20 by omega)
  exact plus_val _ _ (Nat.lt_of_le_of_lt (Nat.le_trans a c) (by decide)) (Nat.lt_of_le_of_lt b (by decide)) w
theorem minus_end (n : Nat) (hn : n ≤ 90000000) (hle : sDn n 20 ≤ sUp n 20) (w : World) :
    Calls Tryd.prog 97 #[longV (sUp n 20), longV (sDn n 20)] w fun e w' => e = .returned (longV (sUp n 20 - sDn n 20)) ∧ Below w.heap.size w w' :=
  minus_val _ _ (Nat.lt_of_le_of_lt (sUp_le n hn 20).1 (by decide)) hle w
theorem steep_dig (n : Nat) : dg (sUp n 20 - sDn n 20) 0 * 100000000 + dg (sUp n 20 - sDn n 20) 1 / 10 = steepN n := by
  unfold steepN
  simp only [dg]
  generalize sUp n 20 - sDn n 20 = v
  omega
theorem slot_six {V : World} {c b : Nat} {x y : Value} (s : Slot2 V c x y) (hne : b ≠ c) (h : Nat → Int) : Slot2 ((((((V.setCell ⟨b, 0, none⟩ (.int .i64 (h 0))).setCell ⟨b, 1, none⟩ (.int .i64 (h 1))).setCell ⟨b, 2, none⟩ (.int .i64 (h 2))).setCell ⟨b, 3, none⟩ (.int .i64 (h 3))).setCell ⟨b, 4, none⟩ (.int .i64 (h 4))).setCell ⟨b, 5, none⟩ (.int .i64 (h 5))) c x y :=
  (((((s.far ⟨b, 0, none⟩ hne _).far ⟨b, 1, none⟩ hne _).far ⟨b, 2, none⟩ hne _).far ⟨b, 3, none⟩ hne _).far ⟨b, 4, none⟩ hne _).far ⟨b, 5, none⟩ hne _
theorem Has.six_far {V : World} {b c v : Nat} (r : Has V b v) (hne : c ≠ b) (h : Nat → Int) : Has ((((((V.setCell ⟨c, 0, none⟩ (.int .i64 (h 0))).setCell ⟨c, 1, none⟩ (.int .i64 (h 1))).setCell ⟨c, 2, none⟩ (.int .i64 (h 2))).setCell ⟨c, 3, none⟩ (.int .i64 (h 3))).setCell ⟨c, 4, none⟩ (.int .i64 (h 4))).setCell ⟨c, 5, none⟩ (.int .i64 (h 5))) b v := RowN.six_far r hne h
theorem Has.six_set {V : World} {b v u : Nat} (r : Has V b v) : Has ((((((V.setCell ⟨b, 0, none⟩ (.int .i64 ((dg u 0 : Nat) : Int))).setCell ⟨b, 1, none⟩ (.int .i64 ((dg u 1 : Nat) : Int))).setCell ⟨b, 2, none⟩ (.int .i64 ((dg u 2 : Nat) : Int))).setCell ⟨b, 3, none⟩ (.int .i64 ((dg u 3 : Nat) : Int))).setCell ⟨b, 4, none⟩ (.int .i64 ((dg u 4 : Nat) : Int))).setCell ⟨b, 5, none⟩ (.int .i64 ((dg u 5 : Nat) : Int))) b u := RowN.six_set r (fun i => ((dg u i : Nat) : Int))
theorem plus_even (n m : Nat) (hn : n ≤ 90000000) (hm : m < 20) (hp : (m + 1) % 2 = 0) (w : World) :
    Calls Tryd.prog 96 #[longV (sUp n m), longV (sTm n (m + 1))] w fun e w' => e = .returned (longV (sUp n (m + 1))) ∧ Below w.heap.size w w' := by
  rw [← (up_even n m hp).1]
  exact plus_up n m hn hm w
theorem plus_odd (n m : Nat) (hn : n ≤ 90000000) (hm : m < 20) (hp : ¬ (m + 1) % 2 = 0) (w : World) :
    Calls Tryd.prog 96 #[longV (sDn n m), longV (sTm n (m + 1))] w fun e w' => e = .returned (longV (sDn n (m + 1))) ∧ Below w.heap.size w w' := by
  rw [← (up_odd n m hp).2]
  exact plus_dn n m hn hm w
end Go.Proofs.YtnjedigjabijcaaDoor

namespace Go.Proofs.YtnjedigjabijcaaDoor
open Go Go.RowKit

set_option maxRecDepth 100000 in
set_option maxHeartbeats 8000000 in
theorem steep_mid (n : Nat) (h0 : n ≠ 0) (h1 : n < 90000000) (h2 : n ≠ 30000000) (w : World) :
    Calls Tryd.prog 74 #[.int .i64 (n : Int)] w fun e w' => e = .returned (.agg #[.int .i64 ((steepN n : Nat) : Int), .int .i64 (((steepN n : Nat) : Int) + 1)]) ∧ Below w.heap.size w w' := by
  have S0 := Slot2.new w (.int .i64 0) (.int .i64 0) 23
  have k0 := alloc_below w (.cells #[.int .i64 0, .int .i64 0] 23)
  have n0 : ((n : Int) == 0) = false := by simpa using h0
  have n1 : ((n : Int) == 30000000) = false := by simp; omega
  have n2 : ((n : Int) == 90000000) = false := by simp; omega
  have xl := sX_le n (by omega)
  have ql := sSq_le n (by omega)
  go_enter Tryd.func74, Tryd.ntmps74
  go_wp2_with fail
  refine (pi_val _).mono ?_
  rintro e w1 ⟨rfl, hB⟩
  replace S0 := S0.below hB S0.lies
  replace k0 := blw_next k0 hB
  clear hB
  go_wp2_with fail
  refine (scaled_x n (by omega) (by omega) _).mono ?_
  rintro e w2 ⟨rfl, hB⟩
  unfold longV longF
  have HX := Has.new w2 (sX n) 94
  replace S0 := (S0.below hB S0.lies).alloc (.cells #[.int .i64 ((dg (sX n) 0 : Nat) : Int), .int .i64 ((dg (sX n) 1 : Nat) : Int), .int .i64 ((dg (sX n) 2 : Nat) : Int), .int .i64 ((dg (sX n) 3 : Nat) : Int), .int .i64 ((dg (sX n) 4 : Nat) : Int), .int .i64 ((dg (sX n) 5 : Nat) : Int)] 94)
  replace k0 := blw_alloc (blw_next k0 hB) (.cells #[.int .i64 ((dg (sX n) 0 : Nat) : Int), .int .i64 ((dg (sX n) 1 : Nat) : Int), .int .i64 ((dg (sX n) 2 : Nat) : Int), .int .i64 ((dg (sX n) 3 : Nat) : Int), .int .i64 ((dg (sX n) 4 : Nat) : Int), .int .i64 ((dg (sX n) 5 : Nat) : Int)] 94)
  clear hB
  obtain ⟨x0, x1, x2, x3, x4, x5⟩ := HX.cells
  go_wp2_with fail
  refine (times_sq n (by omega) _).mono ?_
  rintro e w3 ⟨rfl, hB⟩
  clear x0 x1 x2 x3 x4 x5
  unfold longV longF
  have HS : Has _ _ (sSq n) := Has.new w3 (sSq n) 94
  have l3 := (HX.next hB).lt
  replace HX := (HX.next hB).alloc (.cells #[.int .i64 ((dg (sSq n) 0 : Nat) : Int), .int .i64 ((dg (sSq n) 1 : Nat) : Int), .int .i64 ((dg (sSq n) 2 : Nat) : Int), .int .i64 ((dg (sSq n) 3 : Nat) : Int), .int .i64 ((dg (sSq n) 4 : Nat) : Int), .int .i64 ((dg (sSq n) 5 : Nat) : Int)] 94)
  replace S0 := (S0.below hB S0.lies).alloc (.cells #[.int .i64 ((dg (sSq n) 0 : Nat) : Int), .int .i64 ((dg (sSq n) 1 : Nat) : Int), .int .i64 ((dg (sSq n) 2 : Nat) : Int), .int .i64 ((dg (sSq n) 3 : Nat) : Int), .int .i64 ((dg (sSq n) 4 : Nat) : Int), .int .i64 ((dg (sSq n) 5 : Nat) : Int)] 94)
  replace k0 := blw_alloc (blw_next k0 hB) (.cells #[.int .i64 ((dg (sSq n) 0 : Nat) : Int), .int .i64 ((dg (sSq n) 1 : Nat) : Int), .int .i64 ((dg (sSq n) 2 : Nat) : Int), .int .i64 ((dg (sSq n) 3 : Nat) : Int), .int .i64 ((dg (sSq n) 4 : Nat) : Int), .int .i64 ((dg (sSq n) 5 : Nat) : Int)] 94)
  clear hB
  obtain ⟨x0, x1, x2, x3, x4, x5⟩ := HX.cells
  have HX' := Lib.hid HX
  have HS' := Lib.hid HS
  have S0' := Lib.hid S0
  have K0' := Lib.hid k0
  clear HX HS S0 k0
  go_upto_region 10 with (fail)
  generalize w3.alloc (.cells #[.int .i64 ((dg (sSq n) 0 : Nat) : Int), .int .i64 ((dg (sSq n) 1 : Nat) : Int), .int .i64 ((dg (sSq n) 2 : Nat) : Int), .int .i64 ((dg (sSq n) 3 : Nat) : Int), .int .i64 ((dg (sSq n) 4 : Nat) : Int), .int .i64 ((dg (sSq n) 5 : Nat) : Int)] 94) = W at *
  go_cut [5, 6, 7] (fun x y z wx => ∃ b1 b2 b3 : Nat, x = .pointer (some ⟨b1, 0, none⟩) ∧ y = .pointer (some ⟨b2, 0, none⟩) ∧ z = .pointer (some ⟨b3, 0, none⟩) ∧ Below W.heap.size W wx ∧ W.heap.size ≤ b1 ∧ W.heap.size ≤ b2 ∧ W.heap.size ≤ b3 ∧ b1 ≠ b2 ∧ b1 ≠ b3 ∧ b2 ≠ b3 ∧ Has wx b1 (sX n) ∧ Has wx b2 0 ∧ Has wx b3 (sX n))
  case first =>
    have hl := HX'.out.lt
    have y1 := fun o1 => (HX'.out.alloc o1).cells
    have y2 := fun o1 o2 => ((HX'.out.alloc o1).alloc o2).cells
    have y3 := fun o1 o2 o3 => (((HX'.out.alloc o1).alloc o2).alloc o3).cells
    clear HX' HS' S0' K0' n0 n1 n2 xl ql l3
    go_region
    all_goals (go_wp2_with fail; go_meet)
    all_goals refine ⟨_, _, _, rfl, rfl, rfl, blw_drew (blw_alloc (blw_alloc (alloc_below W _) _) _), by omega, by omega, by omega, by omega, by omega, by omega, Has.drew ?_, Has.drew ?_, Has.drew ?_⟩
    all_goals (repeat' (first | exact Has.newAt _ _ _ _ (by first | (with_reducible rfl; done) | (simp only [World.size_alloc]; done) | fail) | exact Has.newZ _ _ _ (by first | (with_reducible rfl; done) | (simp only [World.size_alloc]; done) | fail) | refine Has.alloc ?_ _ | fail))
  case rest =>
    obtain ⟨b1, b2, b3, rfl, rfl, rfl, hB, g1, g2, g3, e12, e13, e23, H1, H2, H3⟩ := hcut
    have q0 := HX'.out.lt
    have q1 := HS'.out.lt
    have q2 := S0'.out.lies
    have HS := HS'.out.next hB
    have S0 := S0'.out.below hB S0'.out.lies
    have k0 := blw_next K0'.out hB
    clear HX' HS' S0' K0' hB x0 x1 x2 x3 x4 x5
    go_wp2_with fail
    go_loopw [8] (fun k wr => SteepRel n w w3.heap.size b1 b2 b3 k wr) (fun k _ => 21 - (intOf k).toNat)
    case atStart => exact ⟨0, by omega, rfl, k0, S0, HS, H1, H2, H3⟩
    case round =>
      clear xl ql n0 n1 n2 l3
      clear k0 S0 HS H1 H2 H3
      obtain ⟨m, m20, rfl, k0, S0, HS, H1, H2, H3⟩ := hrel
      by_cases hm : m < 20
      · have p1 : 2 * ((m + 1 : Nat) : Int) * (2 * ((m + 1 : Nat) : Int) + 1) = ((2 * (m + 1) * (2 * (m + 1) + 1) : Nat) : Int) := by push_cast; rfl
        have p2 : 2 * (m + 1) * (2 * (m + 1) + 1) ≤ 40 * 41 := Nat.mul_le_mul (by omega) (by omega)
        have p3 : 0 ≤ 2 * ((m + 1 : Nat) : Int) * (2 * ((m + 1 : Nat) : Int) + 1) := by rw [p1]; omega
        have p4 : 2 * ((m + 1 : Nat) : Int) * (2 * ((m + 1 : Nat) : Int) + 1) ≤ 1640 := by rw [p1]; omega
        have P1 : Hid (wrap64 (2 * ((m : Int) + 1) * (2 * ((m : Int) + 1) + 1)) = ((2 * (m + 1) * (2 * (m + 1) + 1) : Nat) : Int)) := Lib.hid (by
          have e : ((m + 1 : Nat) : Int) = (m : Int) + 1 := rfl
          rw [e] at p1 p3 p4
          rw [IntWalk.wrap64_in _ (by omega), p1])
        clear p1 p2 p3 p4
        obtain ⟨x0, x1, x2, x3, x4, x5⟩ := HS.cells
        obtain ⟨y0, y1, y2, y3, y4, y5⟩ := H3.cells
        have r1 := H1.lt
        have r2 := H2.lt
        have r3 := H3.lt
        have Z := Lib.hid (show Below w.heap.size w wr ∧ Slot2 wr w.heap.size (.int .i64 0) (.int .i64 0) ∧ Has wr w3.heap.size (sSq n) ∧ Has wr b1 (sUp n m) ∧ Has wr b2 (sDn n m) ∧ Has wr b3 (sTm n m) from ⟨k0, S0, HS, H1, H2, H3⟩)
        clear k0 S0 HS H1 H2 H3
        go_wp2_with fail
        refine (times_tm n m (by omega) _).mono ?_
        rintro e w4 ⟨rfl, hB⟩
        obtain ⟨k0, S0, HS, H1, H2, H3⟩ := Z.out
        have Z4 := Lib.hid (show Below w.heap.size w w4 ∧ Slot2 w4 w.heap.size (.int .i64 0) (.int .i64 0) ∧ Has w4 w3.heap.size (sSq n) ∧ Has w4 b1 (sUp n m) ∧ Has w4 b2 (sDn n m) ∧ Has w4 b3 (sTm n m) from ⟨blw_next k0 hB, S0.below hB S0.lies, HS.next hB, H1.next hB, H2.next hB, H3.next hB⟩)
        clear Z k0 S0 HS H1 H2 H3 hB x0 x1 x2 x3 x4 x5 y0 y1 y2 y3 y4 y5 r1 r2 r3
        unfold longV longF
        go_wp2_with fail
        refine (scaled_tm n m (wrap64 (2 * ((m : Int) + 1) * (2 * ((m : Int) + 1) + 1))) (by omega) hm P1.out _).mono ?_
        rintro e w5 ⟨rfl, hB⟩
        obtain ⟨k0, S0, HS, H1, H2, H3⟩ := Z4.out
        replace k0 := blw_next k0 hB
        replace S0 := S0.below hB S0.lies
        replace HS := HS.next hB
        replace H1 := H1.next hB
        replace H2 := H2.next hB
        replace H3 := H3.next hB
        clear Z4 hB P1
        obtain ⟨y0, y1, y2, y3, y4, y5⟩ := H3.cells
        obtain ⟨f0, f1, f2, f3, f4, f5⟩ := H3.frees
        have K5 : Hid (Below w.heap.size w ((((((w5.setCell ⟨b3, 0, none⟩ (.int .i64 ((dg (sTm n (m + 1)) 0 : Nat) : Int))).setCell ⟨b3, 1, none⟩ (.int .i64 ((dg (sTm n (m + 1)) 1 : Nat) : Int))).setCell ⟨b3, 2, none⟩ (.int .i64 ((dg (sTm n (m + 1)) 2 : Nat) : Int))).setCell ⟨b3, 3, none⟩ (.int .i64 ((dg (sTm n (m + 1)) 3 : Nat) : Int))).setCell ⟨b3, 4, none⟩ (.int .i64 ((dg (sTm n (m + 1)) 4 : Nat) : Int))).setCell ⟨b3, 5, none⟩ (.int .i64 ((dg (sTm n (m + 1)) 5 : Nat) : Int))) ∧ Slot2 ((((((w5.setCell ⟨b3, 0, none⟩ (.int .i64 ((dg (sTm n (m + 1)) 0 : Nat) : Int))).setCell ⟨b3, 1, none⟩ (.int .i64 ((dg (sTm n (m + 1)) 1 : Nat) : Int))).setCell ⟨b3, 2, none⟩ (.int .i64 ((dg (sTm n (m + 1)) 2 : Nat) : Int))).setCell ⟨b3, 3, none⟩ (.int .i64 ((dg (sTm n (m + 1)) 3 : Nat) : Int))).setCell ⟨b3, 4, none⟩ (.int .i64 ((dg (sTm n (m + 1)) 4 : Nat) : Int))).setCell ⟨b3, 5, none⟩ (.int .i64 ((dg (sTm n (m + 1)) 5 : Nat) : Int))) w.heap.size (.int .i64 0) (.int .i64 0) ∧ Has ((((((w5.setCell ⟨b3, 0, none⟩ (.int .i64 ((dg (sTm n (m + 1)) 0 : Nat) : Int))).setCell ⟨b3, 1, none⟩ (.int .i64 ((dg (sTm n (m + 1)) 1 : Nat) : Int))).setCell ⟨b3, 2, none⟩ (.int .i64 ((dg (sTm n (m + 1)) 2 : Nat) : Int))).setCell ⟨b3, 3, none⟩ (.int .i64 ((dg (sTm n (m + 1)) 3 : Nat) : Int))).setCell ⟨b3, 4, none⟩ (.int .i64 ((dg (sTm n (m + 1)) 4 : Nat) : Int))).setCell ⟨b3, 5, none⟩ (.int .i64 ((dg (sTm n (m + 1)) 5 : Nat) : Int))) w3.heap.size (sSq n) ∧ Has ((((((w5.setCell ⟨b3, 0, none⟩ (.int .i64 ((dg (sTm n (m + 1)) 0 : Nat) : Int))).setCell ⟨b3, 1, none⟩ (.int .i64 ((dg (sTm n (m + 1)) 1 : Nat) : Int))).setCell ⟨b3, 2, none⟩ (.int .i64 ((dg (sTm n (m + 1)) 2 : Nat) : Int))).setCell ⟨b3, 3, none⟩ (.int .i64 ((dg (sTm n (m + 1)) 3 : Nat) : Int))).setCell ⟨b3, 4, none⟩ (.int .i64 ((dg (sTm n (m + 1)) 4 : Nat) : Int))).setCell ⟨b3, 5, none⟩ (.int .i64 ((dg (sTm n (m + 1)) 5 : Nat) : Int))) b1 (sUp n m) ∧ Has ((((((w5.setCell ⟨b3, 0, none⟩ (.int .i64 ((dg (sTm n (m + 1)) 0 : Nat) : Int))).setCell ⟨b3, 1, none⟩ (.int .i64 ((dg (sTm n (m + 1)) 1 : Nat) : Int))).setCell ⟨b3, 2, none⟩ (.int .i64 ((dg (sTm n (m + 1)) 2 : Nat) : Int))).setCell ⟨b3, 3, none⟩ (.int .i64 ((dg (sTm n (m + 1)) 3 : Nat) : Int))).setCell ⟨b3, 4, none⟩ (.int .i64 ((dg (sTm n (m + 1)) 4 : Nat) : Int))).setCell ⟨b3, 5, none⟩ (.int .i64 ((dg (sTm n (m + 1)) 5 : Nat) : Int))) b2 (sDn n m) ∧ Has ((((((w5.setCell ⟨b3, 0, none⟩ (.int .i64 ((dg (sTm n (m + 1)) 0 : Nat) : Int))).setCell ⟨b3, 1, none⟩ (.int .i64 ((dg (sTm n (m + 1)) 1 : Nat) : Int))).setCell ⟨b3, 2, none⟩ (.int .i64 ((dg (sTm n (m + 1)) 2 : Nat) : Int))).setCell ⟨b3, 3, none⟩ (.int .i64 ((dg (sTm n (m + 1)) 3 : Nat) : Int))).setCell ⟨b3, 4, none⟩ (.int .i64 ((dg (sTm n (m + 1)) 4 : Nat) : Int))).setCell ⟨b3, 5, none⟩ (.int .i64 ((dg (sTm n (m + 1)) 5 : Nat) : Int))) b3 (sTm n (m + 1))) :=
          Lib.hid ⟨below_six k0 (by omega) (fun i => ((dg (sTm n (m + 1)) i : Nat) : Int)), slot_six S0 (by omega) (fun i => ((dg (sTm n (m + 1)) i : Nat) : Int)), HS.six_far (by omega) (fun i => ((dg (sTm n (m + 1)) i : Nat) : Int)), H1.six_far (Ne.symm e13) (fun i => ((dg (sTm n (m + 1)) i : Nat) : Int)), H2.six_far (Ne.symm e23) (fun i => ((dg (sTm n (m + 1)) i : Nat) : Int)), H3.six_set⟩
        clear k0 S0 HS H1 H2 H3
        unfold longV longF
        go_upto_region 15 with (fail)
        generalize ((((((w5.setCell ⟨b3, 0, none⟩ (.int .i64 ((dg (sTm n (m + 1)) 0 : Nat) : Int))).setCell ⟨b3, 1, none⟩ (.int .i64 ((dg (sTm n (m + 1)) 1 : Nat) : Int))).setCell ⟨b3, 2, none⟩ (.int .i64 ((dg (sTm n (m + 1)) 2 : Nat) : Int))).setCell ⟨b3, 3, none⟩ (.int .i64 ((dg (sTm n (m + 1)) 3 : Nat) : Int))).setCell ⟨b3, 4, none⟩ (.int .i64 ((dg (sTm n (m + 1)) 4 : Nat) : Int))).setCell ⟨b3, 5, none⟩ (.int .i64 ((dg (sTm n (m + 1)) 5 : Nat) : Int))) = V at *
        clear y0 y1 y2 y3 y4 y5 f0 f1 f2 f3 f4 f5
        by_cases hp : (m + 1) % 2 = 0
        · skip
          have hq : ((m : Int) + 1) % 2 = 0 := by omega
          obtain ⟨k0, S0, HS, H1, H2, H3⟩ := K5.out
          obtain ⟨x0, x1, x2, x3, x4, x5⟩ := H1.cells
          obtain ⟨y0, y1, y2, y3, y4, y5⟩ := H3.cells
          clear k0 S0 HS H1 H2 H3
          go_wp2_with fail
          refine (plus_even n m (by omega) hm hp _).mono ?_
          rintro e w6 ⟨rfl, hB⟩
          obtain ⟨k0, S0, HS, H1, H2, H3⟩ := K5.out
          replace k0 := blw_next k0 hB
          replace S0 := S0.below hB S0.lies
          replace HS := HS.next hB
          replace H1 := H1.next hB
          replace H2 := H2.next hB
          replace H3 := H3.next hB
          clear K5 hB hq x0 x1 x2 x3 x4 x5 y0 y1 y2 y3 y4 y5
          obtain ⟨y0, y1, y2, y3, y4, y5⟩ := H1.cells
          obtain ⟨f0, f1, f2, f3, f4, f5⟩ := H1.frees
          have K6 : Hid (SteepRel n w w3.heap.size b1 b2 b3 (.int .i64 ((m : Int) + 1 + 1)) ((((((w6.setCell ⟨b1, 0, none⟩ (.int .i64 ((dg (sUp n (m + 1)) 0 : Nat) : Int))).setCell ⟨b1, 1, none⟩ (.int .i64 ((dg (sUp n (m + 1)) 1 : Nat) : Int))).setCell ⟨b1, 2, none⟩ (.int .i64 ((dg (sUp n (m + 1)) 2 : Nat) : Int))).setCell ⟨b1, 3, none⟩ (.int .i64 ((dg (sUp n (m + 1)) 3 : Nat) : Int))).setCell ⟨b1, 4, none⟩ (.int .i64 ((dg (sUp n (m + 1)) 4 : Nat) : Int))).setCell ⟨b1, 5, none⟩ (.int .i64 ((dg (sUp n (m + 1)) 5 : Nat) : Int)))) :=
            Lib.hid ⟨m + 1, by omega, by go_num, below_six k0 (by omega) (fun i => ((dg (sUp n (m + 1)) i : Nat) : Int)), slot_six S0 (by omega) (fun i => ((dg (sUp n (m + 1)) i : Nat) : Int)), HS.six_far (by omega) (fun i => ((dg (sUp n (m + 1)) i : Nat) : Int)), H1.six_set, (up_even n m hp).2 ▸ H2.six_far e12 (fun i => ((dg (sUp n (m + 1)) i : Nat) : Int)), H3.six_far e13 (fun i => ((dg (sUp n (m + 1)) i : Nat) : Int))⟩
          clear k0 S0 HS H1 H2 H3
          unfold longV longF
          go_wp2_with fail
          go_roundw
          case rel => exact K6.out
          case measure => simp [intOf]; omega
        · skip
          have hq : ((m : Int) + 1) % 2 = 1 := by omega
          obtain ⟨k0, S0, HS, H1, H2, H3⟩ := K5.out
          obtain ⟨x0, x1, x2, x3, x4, x5⟩ := H2.cells
          obtain ⟨y0, y1, y2, y3, y4, y5⟩ := H3.cells
          clear k0 S0 HS H1 H2 H3
          go_wp2_with fail
          refine (plus_odd n m (by omega) hm hp _).mono ?_
          rintro e w6 ⟨rfl, hB⟩
          obtain ⟨k0, S0, HS, H1, H2, H3⟩ := K5.out
          replace k0 := blw_next k0 hB
          replace S0 := S0.below hB S0.lies
          replace HS := HS.next hB
          replace H1 := H1.next hB
          replace H2 := H2.next hB
          replace H3 := H3.next hB
          clear K5 hB hq x0 x1 x2 x3 x4 x5 y0 y1 y2 y3 y4 y5
          obtain ⟨y0, y1, y2, y3, y4, y5⟩ := H2.cells
          obtain ⟨f0, f1, f2, f3, f4, f5⟩ := H2.frees
          have K6 : Hid (SteepRel n w w3.heap.size b1 b2 b3 (.int .i64 ((m : Int) + 1 + 1)) ((((((w6.setCell ⟨b2, 0, none⟩ (.int .i64 ((dg (sDn n (m + 1)) 0 : Nat) : Int))).setCell ⟨b2, 1, none⟩ (.int .i64 ((dg (sDn n (m + 1)) 1 : Nat) : Int))).setCell ⟨b2, 2, none⟩ (.int .i64 ((dg (sDn n (m + 1)) 2 : Nat) : Int))).setCell ⟨b2, 3, none⟩ (.int .i64 ((dg (sDn n (m + 1)) 3 : Nat) : Int))).setCell ⟨b2, 4, none⟩ (.int .i64 ((dg (sDn n (m + 1)) 4 : Nat) : Int))).setCell ⟨b2, 5, none⟩ (.int .i64 ((dg (sDn n (m + 1)) 5 : Nat) : Int)))) :=
            Lib.hid ⟨m + 1, by omega, by go_num, below_six k0 (by omega) (fun i => ((dg (sDn n (m + 1)) i : Nat) : Int)), slot_six S0 (by omega) (fun i => ((dg (sDn n (m + 1)) i : Nat) : Int)), HS.six_far (by omega) (fun i => ((dg (sDn n (m + 1)) i : Nat) : Int)), (up_odd n m hp).1 ▸ H1.six_far (Ne.symm e12) (fun i => ((dg (sDn n (m + 1)) i : Nat) : Int)), H2.six_set, H3.six_far e23 (fun i => ((dg (sDn n (m + 1)) i : Nat) : Int))⟩
          clear k0 S0 HS H1 H2 H3
          unfold longV longF
          go_wp2_with fail
          go_roundw
          case rel => exact K6.out
          case measure => simp [intOf]; omega
      · obtain rfl : m = 20 := by omega
        obtain ⟨hle, hst⟩ := series_ok n h1 h0 h2
        have top := hunN_le (fracN n) (fracN_le n (by omega))
        rw [← hst, ← steep_dig n] at top
        have HD := Lib.hid (steep_dig n)
        clear hst
        obtain ⟨x0, x1, x2, x3, x4, x5⟩ := H1.cells
        obtain ⟨y0, y1, y2, y3, y4, y5⟩ := H2.cells
        have Z := Lib.hid (show Below w.heap.size w wr ∧ Slot2 wr w.heap.size (.int .i64 0) (.int .i64 0) from ⟨k0, S0⟩)
        clear k0 S0 HS H1 H2 H3
        go_wp2_with fail
        refine (minus_end n (by omega) hle _).mono ?_
        rintro e w4 ⟨rfl, hB⟩
        obtain ⟨k0, S0⟩ := Z.out
        have d2 := dg_norm (sUp n 20 - sDn n 20)
        generalize sUp n 20 - sDn n 20 = v at *
        have HV := Has.new w4 v 94
        replace S0 := (S0.below hB S0.lies).alloc (.cells #[.int .i64 ((dg (v) 0 : Nat) : Int), .int .i64 ((dg (v) 1 : Nat) : Int), .int .i64 ((dg (v) 2 : Nat) : Int), .int .i64 ((dg (v) 3 : Nat) : Int), .int .i64 ((dg (v) 4 : Nat) : Int), .int .i64 ((dg (v) 5 : Nat) : Int)] 94)
        replace k0 := blw_alloc (blw_next k0 hB) (.cells #[.int .i64 ((dg (v) 0 : Nat) : Int), .int .i64 ((dg (v) 1 : Nat) : Int), .int .i64 ((dg (v) 2 : Nat) : Int), .int .i64 ((dg (v) 3 : Nat) : Int), .int .i64 ((dg (v) 4 : Nat) : Int), .int .i64 ((dg (v) 5 : Nat) : Int)] 94)
        have lw : w.heap.size ≠ w4.heap.size := by have := (Z.out.2.below hB Z.out.2.lies).lies; omega
        clear Z hB x0 x1 x2 x3 x4 x5 y0 y1 y2 y3 y4 y5
        obtain ⟨x0, x1, _, _, _, _⟩ := HV.cells
        have l1 := d2.1
        clear HV d2
        have S1 := Lib.hid S0
        have K1 := Lib.hid k0
        obtain ⟨_, s0, s1, f0, f1⟩ := S0
        clear k0
        unfold longV longF
        go_upto_region 19 with (fail)
        generalize w4.alloc (.cells #[.int .i64 ((dg (v) 0 : Nat) : Int), .int .i64 ((dg (v) 1 : Nat) : Int), .int .i64 ((dg (v) 2 : Nat) : Int), .int .i64 ((dg (v) 3 : Nat) : Int), .int .i64 ((dg (v) 4 : Nat) : Int), .int .i64 ((dg (v) 5 : Nat) : Int)] 94) = V at *
        go_wp2_with fail
        have SF := (S1.out.set0 (.int .i64 (((steepN n : Nat) : Int)))).set1 (.int .i64 (((steepN n : Nat) : Int) + 1))
        have eD : ((dg v 0 : Nat) : Int) * 100000000 + ((dg v 1 : Nat) : Int) / 10 = ((steepN n : Nat) : Int) := by
          have := HD.out
          omega
        rw [eD]
        refine bodyPost_ret (v := .agg #[.int .i64 ((steepN n : Nat) : Int), .int .i64 (((steepN n : Nat) : Int) + 1)]) (by simp [results, Tryd.results74, go_sem, SF.cell0, SF.cell1]) rfl
          ⟨rfl, (K1.out.setCell (p := ⟨w.heap.size, 0, none⟩) (Nat.le_refl _) _).setCell (p := ⟨w.heap.size, 1, none⟩) (Nat.le_refl _) _⟩
end Go.Proofs.YtnjedigjabijcaaDoor

namespace Go.Proofs.YtnjedigjabijcaaDoor
open Go Go.RowKit

set_option maxRecDepth 100000 in
set_option maxHeartbeats 4000000 in
theorem steep_any (a : Int) (h0 : 0 ≤ a) (h1 : a ≤ 90000000) (w : World) :
    Calls Tryd.prog 74 #[.int .i64 a] w fun e w' => e = .returned (.agg #[.int .i64 (quarter a).1, .int .i64 (quarter a).2]) ∧ Below w.heap.size w w' := by
  by_cases c0 : a = 0
  · subst c0
    rw [show quarter 0 = (0, 0) from rfl]
    go_enter Tryd.func74, Tryd.ntmps74
    go_wp2_with fail
    refine bodyPost_ret (v := .agg #[.int .i64 0, .int .i64 0]) (by simp [results, Tryd.results74, go_sem]) rfl ⟨rfl, alloc_below w _⟩
  by_cases c1 : a = 30000000
  · subst c1
    rw [show quarter 30000000 = (50000000, 50000000) from rfl]
    go_enter Tryd.func74, Tryd.ntmps74
    go_wp2_with fail
    refine bodyPost_ret (v := .agg #[.int .i64 50000000, .int .i64 50000000]) (by simp [results, Tryd.results74, go_sem]) rfl ⟨rfl, alloc_below w _⟩
  by_cases c2 : a = 90000000
  · subst c2
    rw [show quarter 90000000 = (100000000, 100000000) from rfl]
    go_enter Tryd.func74, Tryd.ntmps74
    go_wp2_with fail
    refine bodyPost_ret (v := .agg #[.int .i64 100000000, .int .i64 100000000]) (by simp [results, Tryd.results74, go_sem]) rfl ⟨rfl, alloc_below w _⟩
  obtain ⟨n, rfl⟩ : ∃ n : Nat, a = (n : Int) := ⟨a.toNat, by omega⟩
  have e := (series_ok n (by omega) (by omega) (by omega)).2
  have q := quarter_else (n : Int) c0 c1 c2
  rw [Int.toNat_natCast, ← e] at q
  rw [q]
  exact steep_mid n (by omega) (by omega) (by omega) w
end Go.Proofs.YtnjedigjabijcaaDoor
