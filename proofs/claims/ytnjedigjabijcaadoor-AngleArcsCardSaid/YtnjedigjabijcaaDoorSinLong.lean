import Derived.Test.YtnjedigjabijcaaDoorPlain
import Derived.Test.YtnjedigjabijcaaDoorSine6
namespace Go.Proofs.YtnjedigjabijcaaDoor

/-- The number that six parts make. -/
def lv (f : Nat → Nat) : Nat := f 0 * 1000000000000000000000000000000000000000000000 + f 1 * 1000000000000000000000000000000000000 + f 2 * 1000000000000000000000000000 + f 3 * 1000000000000000000 + f 4 * 1000000000 + f 5
/-- The parts of a number. -/
def dg (v : Nat) : Nat → Nat
  | 0 => v / 1000000000000000000000000000000000000000000000
  | 1 => v / 1000000000000000000000000000000000000 % 1000000000
  | 2 => v / 1000000000000000000000000000 % 1000000000
  | 3 => v / 1000000000000000000 % 1000000000
  | 4 => v / 1000000000 % 1000000000
  | _ => v % 1000000000
def Norm (f : Nat → Nat) : Prop := f 1 < 1000000000 ∧ f 2 < 1000000000 ∧ f 3 < 1000000000 ∧ f 4 < 1000000000 ∧ f 5 < 1000000000
theorem dg_norm (v : Nat) : Norm (dg v) := by
  unfold Norm
  simp only [dg]
  refine ⟨?_, ?_, ?_, ?_, ?_⟩ <;> exact Nat.mod_lt _ (by decide)
theorem dg_lv (f : Nat → Nat) (h : Norm f) : dg (lv f) 0 = f 0 ∧ dg (lv f) 1 = f 1 ∧ dg (lv f) 2 = f 2 ∧ dg (lv f) 3 = f 3 ∧ dg (lv f) 4 = f 4 ∧ dg (lv f) 5 = f 5 := by
  obtain ⟨h1, h2, h3, h4, h5⟩ := h
  unfold lv
  simp only [dg]
  generalize f 0 = a at *
  generalize f 1 = b at *
  generalize f 2 = c at *
  generalize f 3 = d at *
  generalize f 4 = e at *
  generalize f 5 = g at *
  refine ⟨?_, ?_, ?_, ?_, ?_, ?_⟩ <;> omega
theorem lv_dg (v : Nat) : lv (dg v) = v := by
  unfold lv
  simp only [dg]
  omega
/-- Sums: the carry behind so many parts, from the last one. -/
def cP (f g : Nat → Nat) : Nat → Nat
  | 0 => 0
  | n + 1 => (f (5 - n) + g (5 - n) + cP f g n) / 1000000000
def sP (f g : Nat → Nat) : Nat → Nat
  | 0 => f 0 + g 0 + cP f g 5
  | k + 1 => (f (k + 1) + g (k + 1) + cP f g (4 - k)) % 1000000000
theorem sP_ok (f g : Nat → Nat) (hf : Norm f) (hg : Norm g) : Norm (sP f g) ∧ lv (sP f g) = lv f + lv g := by
  obtain ⟨h1, h2, h3, h4, h5⟩ := hf
  obtain ⟨g1, g2, g3, g4, g5⟩ := hg
  unfold Norm lv
  simp only [sP, cP, Nat.reduceSub]
  generalize f 0 = a at *
  generalize f 1 = b at *
  generalize f 2 = c at *
  generalize f 3 = d at *
  generalize f 4 = e at *
  generalize f 5 = p at *
  generalize g 0 = a' at *
  generalize g 1 = b' at *
  generalize g 2 = c' at *
  generalize g 3 = d' at *
  generalize g 4 = e' at *
  generalize g 5 = p' at *
  refine ⟨⟨?_, ?_, ?_, ?_, ?_⟩, ?_⟩ <;> omega
/-- Differences: what was borrowed behind so many parts. -/
def bM (f g : Nat → Nat) : Nat → Nat
  | 0 => 0
  | n + 1 => if f (5 - n) < g (5 - n) + bM f g n then 1 else 0
def sM (f g : Nat → Nat) : Nat → Nat
  | 0 => f 0 - g 0 - bM f g 5
  | k + 1 => f (k + 1) + (if f (k + 1) < g (k + 1) + bM f g (4 - k) then 1000000000 else 0) - g (k + 1) - bM f g (4 - k)
theorem bM_le (f g : Nat → Nat) (n : Nat) : bM f g n ≤ 1 := by
  cases n with
  | zero => exact Nat.zero_le _
  | succ n => unfold bM; split <;> omega
theorem bM_step (f g : Nat → Nat) (n : Nat) (h1 : f (5 - n) < 1000000000) (h2 : g (5 - n) < 1000000000) :
    (f (5 - n) + (if f (5 - n) < g (5 - n) + bM f g n then 1000000000 else 0) - g (5 - n) - bM f g n) + g (5 - n) + bM f g n = f (5 - n) + 1000000000 * bM f g (n + 1) ∧
      (f (5 - n) + (if f (5 - n) < g (5 - n) + bM f g n then 1000000000 else 0) - g (5 - n) - bM f g n) < 1000000000 := by
  have l := bM_le f g n
  have e : bM f g (n + 1) = if f (5 - n) < g (5 - n) + bM f g n then 1 else 0 := rfl
  rw [e]
  split <;> omega
theorem sM_ok (f g : Nat → Nat) (hf : Norm f) (hg : Norm g) (hle : lv g ≤ lv f) : Norm (sM f g) ∧ lv (sM f g) = lv f - lv g ∧ g 0 + bM f g 5 ≤ f 0 := by
  obtain ⟨h1, h2, h3, h4, h5⟩ := hf
  obtain ⟨g1, g2, g3, g4, g5⟩ := hg
  have e1 : sM f g 1 + g 1 + bM f g 4 = f 1 + 1000000000 * bM f g 5 ∧ sM f g 1 < 1000000000 := bM_step f g 4 h1 g1
  have e2 : sM f g 2 + g 2 + bM f g 3 = f 2 + 1000000000 * bM f g 4 ∧ sM f g 2 < 1000000000 := bM_step f g 3 h2 g2
  have e3 : sM f g 3 + g 3 + bM f g 2 = f 3 + 1000000000 * bM f g 3 ∧ sM f g 3 < 1000000000 := bM_step f g 2 h3 g3
  have e4 : sM f g 4 + g 4 + bM f g 1 = f 4 + 1000000000 * bM f g 2 ∧ sM f g 4 < 1000000000 := bM_step f g 1 h4 g4
  have e5 : sM f g 5 + g 5 + bM f g 0 = f 5 + 1000000000 * bM f g 1 ∧ sM f g 5 < 1000000000 := bM_step f g 0 h5 g5
  have z : bM f g 0 = 0 := rfl
  have e0 : sM f g 0 = f 0 - g 0 - bM f g 5 := rfl
  rw [z] at e5
  unfold lv at *
  unfold Norm
  rw [e0]
  generalize sM f g 1 = s1 at *
  generalize sM f g 2 = s2 at *
  generalize sM f g 3 = s3 at *
  generalize sM f g 4 = s4 at *
  generalize sM f g 5 = s5 at *
  generalize bM f g 1 = r1 at *
  generalize bM f g 2 = r2 at *
  generalize bM f g 3 = r3 at *
  generalize bM f g 4 = r4 at *
  generalize bM f g 5 = r5 at *
  generalize f 0 = a at *
  generalize f 1 = b at *
  generalize f 2 = c at *
  generalize f 3 = d at *
  generalize f 4 = e at *
  generalize f 5 = p at *
  generalize g 0 = a' at *
  generalize g 1 = b' at *
  generalize g 2 = c' at *
  generalize g 3 = d' at *
  generalize g 4 = e' at *
  generalize g 5 = p' at *
  have top : a' + r5 ≤ a := by omega
  refine ⟨⟨e1.2, e2.2, e3.2, e4.2, e5.2⟩, ?_, top⟩
  omega
/-- Multiples: the carry. -/
def cS (f : Nat → Nat) (n : Nat) : Nat → Nat
  | 0 => 0
  | k + 1 => (f (5 - k) * n + cS f n k) / 1000000000
def sS (f : Nat → Nat) (n : Nat) : Nat → Nat
  | 0 => f 0 * n + cS f n 5
  | k + 1 => (f (k + 1) * n + cS f n (4 - k)) % 1000000000
theorem sS_ok (f : Nat → Nat) (n : Nat) (hf : Norm f) : Norm (sS f n) ∧ lv (sS f n) = lv f * n := by
  obtain ⟨h1, h2, h3, h4, h5⟩ := hf
  unfold Norm lv
  simp only [sS, cS, Nat.reduceSub, Nat.add_mul, Nat.mul_right_comm _ _ n]
  generalize f 0 * n = a at *
  generalize f 1 * n = b at *
  generalize f 2 * n = c at *
  generalize f 3 * n = d at *
  generalize f 4 * n = e at *
  generalize f 5 * n = p at *
  refine ⟨⟨?_, ?_, ?_, ?_, ?_⟩, ?_⟩ <;> omega
/-- Quotients: what is left over before a part. -/
def rD (f : Nat → Nat) (d : Nat) : Nat → Nat
  | 0 => 0
  | k + 1 => (rD f d k * 1000000000 + f k) % d
def sD (f : Nat → Nat) (d k : Nat) : Nat := (rD f d k * 1000000000 + f k) / d
theorem rD_lt (f : Nat → Nat) (d : Nat) (hd : 0 < d) (k : Nat) : rD f d k < d := by
  cases k with
  | zero => exact hd
  | succ k => exact Nat.mod_lt _ hd
theorem quot_lin (a b c d e g p0 p1 p2 p3 p4 p5 r1 r2 r3 r4 r5 r6 : Nat) (h0 : a = p0 + r1) (h1 : r1 * 1000000000 + b = p1 + r2) (h2 : r2 * 1000000000 + c = p2 + r3) (h3 : r3 * 1000000000 + d = p3 + r4) (h4 : r4 * 1000000000 + e = p4 + r5) (h5 : r5 * 1000000000 + g = p5 + r6) :
    p0 * 1000000000000000000000000000000000000000000000 + p1 * 1000000000000000000000000000000000000 + p2 * 1000000000000000000000000000 + p3 * 1000000000000000000 + p4 * 1000000000 + p5 + r6 = a * 1000000000000000000000000000000000000000000000 + b * 1000000000000000000000000000000000000 + c * 1000000000000000000000000000 + d * 1000000000000000000 + e * 1000000000 + g := by
  grind
theorem quot_sum (f q r : Nat → Nat) (e : ∀ k, r k * 1000000000 + f k = q k + r (k + 1)) (z : r 0 = 0) : lv q + r 6 = lv f := by
  have e0 : f 0 = q 0 + r 1 := by have := e 0; rw [z, Nat.zero_mul, Nat.zero_add] at this; exact this
  exact quot_lin _ _ _ _ _ _ _ _ _ _ _ _ _ _ _ _ _ _ e0 (e 1) (e 2) (e 3) (e 4) (e 5)
theorem lv_mul (d : Nat) (s : Nat → Nat) : d * lv s = lv (fun k => d * s k) := by
  unfold lv
  simp only [Nat.mul_add, ← Nat.mul_assoc]
theorem sD_ok (f : Nat → Nat) (d : Nat) (hd : 0 < d) (hf : Norm f) : Norm (sD f d) ∧ lv (sD f d) = lv f / d := by
  obtain ⟨h1, h2, h3, h4, h5⟩ := hf
  have l : ∀ k, f k < 1000000000 → sD f d k < 1000000000 := fun k hk => by
    unfold sD
    rw [Nat.div_lt_iff_lt_mul hd]
    have r := rD_lt f d hd k
    have m : (rD f d k + 1) * 1000000000 ≤ d * 1000000000 := Nat.mul_le_mul_right _ r
    rw [Nat.mul_comm d] at m
    omega
  refine ⟨⟨l 1 h1, l 2 h2, l 3 h3, l 4 h4, l 5 h5⟩, ?_⟩
  have g := quot_sum f (fun k => d * sD f d k) (rD f d) (fun k => (Nat.div_add_mod _ d).symm) rfl
  rw [← lv_mul] at g
  have r6 := rD_lt f d hd 6
  symm
  rw [Nat.div_eq_iff hd, Nat.mul_comm]
  generalize lv (sD f d) = s at *
  generalize lv f = v at *
  generalize rD f d 6 = r at *
  clear l
  generalize d * s = q at *
  omega
/-- Products: the carry behind so many of twelve parts. -/
def cT (A : Nat → Nat) : Nat → Nat
  | 0 => 0
  | n + 1 => (A (11 - n) + cT A n) / 1000000000
def sT (A : Nat → Nat) : Nat → Nat
  | 0 => A 0 + cT A 11
  | k + 1 => (A (k + 1) + cT A (10 - k)) % 1000000000
def accT (f g : Nat → Nat) : Nat → Nat → Nat
  | 0, _ => 0
  | n + 1, m => if m = n / 6 + n % 6 then accT f g n m + f (n / 6) * g (n % 6) else accT f g n m
theorem sT_ok (A : Nat → Nat) : Norm (sT A) ∧ lv (sT A) = (A 0 * 1000000000 ^ 11 + A 1 * 1000000000 ^ 10 + A 2 * 1000000000 ^ 9 + A 3 * 1000000000 ^ 8 + A 4 * 1000000000 ^ 7 + A 5 * 1000000000 ^ 6 + A 6 * 1000000000 ^ 5 + A 7 * 1000000000 ^ 4 + A 8 * 1000000000 ^ 3 + A 9 * 1000000000 ^ 2 + A 10 * 1000000000 + A 11) / 1000000000 ^ 6 := by
  unfold Norm lv
  simp only [sT, cT, Nat.reduceSub, Nat.reducePow]
  generalize A 0 = a0
  generalize A 1 = a1
  generalize A 2 = a2
  generalize A 3 = a3
  generalize A 4 = a4
  generalize A 5 = a5
  generalize A 6 = a6
  generalize A 7 = a7
  generalize A 8 = a8
  generalize A 9 = a9
  generalize A 10 = a10
  generalize A 11 = a11
  refine ⟨⟨?_, ?_, ?_, ?_, ?_⟩, ?_⟩ <;> omega
theorem accT_val (f g : Nat → Nat) : (accT f g 36 0 * 1000000000 ^ 11 + accT f g 36 1 * 1000000000 ^ 10 + accT f g 36 2 * 1000000000 ^ 9 + accT f g 36 3 * 1000000000 ^ 8 + accT f g 36 4 * 1000000000 ^ 7 + accT f g 36 5 * 1000000000 ^ 6 + accT f g 36 6 * 1000000000 ^ 5 + accT f g 36 7 * 1000000000 ^ 4 + accT f g 36 8 * 1000000000 ^ 3 + accT f g 36 9 * 1000000000 ^ 2 + accT f g 36 10 * 1000000000 + accT f g 36 11) = lv f * lv g * 1000000000 := by
  have e0 : accT f g 36 0 = f 0 * g 0 := by simp [accT]
  have e1 : accT f g 36 1 = f 0 * g 1 + f 1 * g 0 := by simp [accT]
  have e2 : accT f g 36 2 = f 0 * g 2 + f 1 * g 1 + f 2 * g 0 := by simp [accT]
  have e3 : accT f g 36 3 = f 0 * g 3 + f 1 * g 2 + f 2 * g 1 + f 3 * g 0 := by simp [accT]
  have e4 : accT f g 36 4 = f 0 * g 4 + f 1 * g 3 + f 2 * g 2 + f 3 * g 1 + f 4 * g 0 := by simp [accT]
  have e5 : accT f g 36 5 = f 0 * g 5 + f 1 * g 4 + f 2 * g 3 + f 3 * g 2 + f 4 * g 1 + f 5 * g 0 := by simp [accT]
  have e6 : accT f g 36 6 = f 1 * g 5 + f 2 * g 4 + f 3 * g 3 + f 4 * g 2 + f 5 * g 1 := by simp [accT]
  have e7 : accT f g 36 7 = f 2 * g 5 + f 3 * g 4 + f 4 * g 3 + f 5 * g 2 := by simp [accT]
  have e8 : accT f g 36 8 = f 3 * g 5 + f 4 * g 4 + f 5 * g 3 := by simp [accT]
  have e9 : accT f g 36 9 = f 4 * g 5 + f 5 * g 4 := by simp [accT]
  have e10 : accT f g 36 10 = f 5 * g 5 := by simp [accT]
  have e11 : accT f g 36 11 = 0 := by simp [accT]
  rw [e0, e1, e2, e3, e4, e5, e6, e7, e8, e9, e10, e11]
  unfold lv
  have p : (1000000000 : Nat) ^ 2 = 1000000000000000000 := by decide
  grind
theorem times_ok (f g : Nat → Nat) : Norm (sT (accT f g 36)) ∧ lv (sT (accT f g 36)) = lv f * lv g / 1000000000000000000000000000000000000000000000 := by
  obtain ⟨a, b⟩ := sT_ok (accT f g 36)
  refine ⟨a, ?_⟩
  rw [b, accT_val]
  have : (1000000000 : Nat) ^ 6 = 1000000000000000000000000000000000000000000000 * 1000000000 := by decide
  rw [this, ← Nat.div_div_eq_div_mul, Nat.div_div_eq_div_mul, Nat.mul_comm 1000000000000000000000000000000000000000000000 1000000000, ← Nat.div_div_eq_div_mul, Nat.mul_div_cancel _ (by decide)]
end Go.Proofs.YtnjedigjabijcaaDoor

namespace Go.Proofs.YtnjedigjabijcaaDoor
open Go Go.RowKit

/-- A block of n numbers. -/
structure RowN (V : World) (b n : Nat) (f : Nat → Int) : Prop where
  lies : b < V.heap.size
  cell : ∀ i, i < n → V.cell? ⟨b, i, none⟩ = some (.int .i64 (f i))
  free : ∀ i, i < n → V.frozen? ⟨b, i, none⟩ = false
theorem RowN.next {V V' : World} {b n : Nat} {f : Nat → Int} (h : RowN V b n f) (hB : Below V.heap.size V V') : RowN V' b n f :=
  ⟨Nat.lt_of_lt_of_le h.lies hB.size, fun i hi => by rw [hB.cell h.lies, h.cell i hi], fun i hi => by rw [hB.frozen h.lies, h.free i hi]⟩
theorem RowN.drawn {V : World} {b n : Nat} {f : Nat → Int} (h : RowN V b n f) (m : Nat) : RowN (V.drewN m) b n f := ⟨h.lies, h.cell, h.free⟩
theorem RowN.set {V : World} {b n : Nat} {f : Nat → Int} (h : RowN V b n f) (k : Nat) (hk : k < n) (x : Int) (g : Nat → Int) (hx : x = g k) (hg : ∀ i, i < n → i ≠ k → g i = f i) :
    RowN (V.setCell ⟨b, k, none⟩ (.int .i64 x)) b n g := by
  refine ⟨by simpa using h.lies, fun i hi => ?_, fun i hi => by rw [World.frozen?_setCell, h.free i hi]⟩
  by_cases c : i = k
  · subst c
    rw [World.cell?_setCell_same _ _ _ (h.cell i hi), hx]
  · rw [World.cell?_setCell_other (h := by first | (simp; done) | (simp; omega)), h.cell i hi, hg i hi c]
theorem RowN.far {V : World} {b n : Nat} {f : Nat → Int} (h : RowN V b n f) (p : Addr) (hp : p.block ≠ b) (z : Value) : RowN (V.setCell p z) b n f := by
  have hne : ∀ o, p ≠ ⟨b, o, none⟩ := fun o e => hp (by rw [e])
  exact ⟨by simpa using h.lies, fun i hi => by rw [World.cell?_setCell_other (h := hne i), h.cell i hi], fun i hi => by rw [World.frozen?_setCell, h.free i hi]⟩
theorem RowN.congr {V : World} {b n : Nat} {f g : Nat → Int} (h : RowN V b n f) (e : ∀ i, i < n → g i = f i) : RowN V b n g :=
  ⟨h.lies, fun i hi => by rw [h.cell i hi, e i hi], h.free⟩
/-- A long as a value. -/
def longF (f : Nat → Nat) : Value := .agg #[.int .i64 ((f 0 : Nat) : Int), .int .i64 ((f 1 : Nat) : Int), .int .i64 ((f 2 : Nat) : Int), .int .i64 ((f 3 : Nat) : Int), .int .i64 ((f 4 : Nat) : Int), .int .i64 ((f 5 : Nat) : Int)]
theorem RowN.six (V : World) (f : Nat → Nat) (T : TypeId) : RowN (V.alloc (.cells #[.int .i64 ((f 0 : Nat) : Int), .int .i64 ((f 1 : Nat) : Int), .int .i64 ((f 2 : Nat) : Int), .int .i64 ((f 3 : Nat) : Int), .int .i64 ((f 4 : Nat) : Int), .int .i64 ((f 5 : Nat) : Int)] T)) V.heap.size 6 (fun i => ((f i : Nat) : Int)) := by
  refine ⟨by simp, fun i hi => ?_, fun i hi => ?_⟩
  · have : i = 0 ∨ i = 1 ∨ i = 2 ∨ i = 3 ∨ i = 4 ∨ i = 5 := by omega
    rcases this with rfl | rfl | rfl | rfl | rfl | rfl <;> simp [go_sem]
  · have : i = 0 ∨ i = 1 ∨ i = 2 ∨ i = 3 ∨ i = 4 ∨ i = 5 := by omega
    rcases this with rfl | rfl | rfl | rfl | rfl | rfl <;> simp [go_sem]
theorem RowN.twelve (V : World) (T : TypeId) : RowN (V.alloc (.cells #[.int .i64 0, .int .i64 0, .int .i64 0, .int .i64 0, .int .i64 0, .int .i64 0, .int .i64 0, .int .i64 0, .int .i64 0, .int .i64 0, .int .i64 0, .int .i64 0] T)) V.heap.size 12 (fun _ => 0) := by
  refine ⟨by simp, fun i hi => ?_, fun i hi => ?_⟩
  · have : i = 0 ∨ i = 1 ∨ i = 2 ∨ i = 3 ∨ i = 4 ∨ i = 5 ∨ i = 6 ∨ i = 7 ∨ i = 8 ∨ i = 9 ∨ i = 10 ∨ i = 11 := by omega
    rcases this with rfl | rfl | rfl | rfl | rfl | rfl | rfl | rfl | rfl | rfl | rfl | rfl <;> simp [go_sem]
  · have : i = 0 ∨ i = 1 ∨ i = 2 ∨ i = 3 ∨ i = 4 ∨ i = 5 ∨ i = 6 ∨ i = 7 ∨ i = 8 ∨ i = 9 ∨ i = 10 ∨ i = 11 := by omega
    rcases this with rfl | rfl | rfl | rfl | rfl | rfl | rfl | rfl | rfl | rfl | rfl | rfl <;> simp [go_sem]
/-- All six cells laid anew. -/
theorem RowN.six_set {V : World} {b : Nat} {f : Nat → Int} (r : RowN V b 6 f) (h : Nat → Int) : RowN ((((((V.setCell ⟨b, 0, none⟩ (.int .i64 (h 0))).setCell ⟨b, 1, none⟩ (.int .i64 (h 1))).setCell ⟨b, 2, none⟩ (.int .i64 (h 2))).setCell ⟨b, 3, none⟩ (.int .i64 (h 3))).setCell ⟨b, 4, none⟩ (.int .i64 (h 4))).setCell ⟨b, 5, none⟩ (.int .i64 (h 5))) b 6 h := by
  let f0 : Nat → Int := fun i => if i = 0 then h 0 else f i
  let f1 : Nat → Int := fun i => if i = 1 then h 1 else f0 i
  let f2 : Nat → Int := fun i => if i = 2 then h 2 else f1 i
  let f3 : Nat → Int := fun i => if i = 3 then h 3 else f2 i
  let f4 : Nat → Int := fun i => if i = 4 then h 4 else f3 i
  let f5 : Nat → Int := fun i => if i = 5 then h 5 else f4 i
  have r0 := r.set 0 (by omega) (h 0) f0 (by simp [f0]) (fun i _ hi => by simp [f0, hi])
  have r1 := r0.set 1 (by omega) (h 1) f1 (by simp [f1]) (fun i _ hi => by simp [f1, hi])
  have r2 := r1.set 2 (by omega) (h 2) f2 (by simp [f2]) (fun i _ hi => by simp [f2, hi])
  have r3 := r2.set 3 (by omega) (h 3) f3 (by simp [f3]) (fun i _ hi => by simp [f3, hi])
  have r4 := r3.set 4 (by omega) (h 4) f4 (by simp [f4]) (fun i _ hi => by simp [f4, hi])
  have r5 := r4.set 5 (by omega) (h 5) f5 (by simp [f5]) (fun i _ hi => by simp [f5, hi])
  refine r5.congr fun i hi => ?_
  have : i = 0 ∨ i = 1 ∨ i = 2 ∨ i = 3 ∨ i = 4 ∨ i = 5 := by omega
  rcases this with rfl | rfl | rfl | rfl | rfl | rfl <;> simp [f0, f1, f2, f3, f4, f5]
theorem RowN.six_far {V : World} {b n c : Nat} {f : Nat → Int} (r : RowN V b n f) (hne : c ≠ b) (h : Nat → Int) : RowN ((((((V.setCell ⟨c, 0, none⟩ (.int .i64 (h 0))).setCell ⟨c, 1, none⟩ (.int .i64 (h 1))).setCell ⟨c, 2, none⟩ (.int .i64 (h 2))).setCell ⟨c, 3, none⟩ (.int .i64 (h 3))).setCell ⟨c, 4, none⟩ (.int .i64 (h 4))).setCell ⟨c, 5, none⟩ (.int .i64 (h 5))) b n f :=
  (((((r.far _ hne _).far _ hne _).far _ hne _).far _ hne _).far _ hne _).far _ hne _
theorem below_six {w V : World} {B : Nat} (hB : Below B w V) {b : Nat} (hb : B ≤ b) (h : Nat → Int) : Below B w ((((((V.setCell ⟨b, 0, none⟩ (.int .i64 (h 0))).setCell ⟨b, 1, none⟩ (.int .i64 (h 1))).setCell ⟨b, 2, none⟩ (.int .i64 (h 2))).setCell ⟨b, 3, none⟩ (.int .i64 (h 3))).setCell ⟨b, 4, none⟩ (.int .i64 (h 4))).setCell ⟨b, 5, none⟩ (.int .i64 (h 5))) :=
  (((((hB.setCell (p := ⟨b, 0, none⟩) hb _).setCell (p := ⟨b, 1, none⟩) hb _).setCell (p := ⟨b, 2, none⟩) hb _).setCell (p := ⟨b, 3, none⟩) hb _).setCell (p := ⟨b, 4, none⟩) hb _).setCell (p := ⟨b, 5, none⟩) hb _
theorem blw_alloc {w V : World} (h : Below w.heap.size w V) (o : Obj) : Below w.heap.size w (V.alloc o) := h.trans ((alloc_below V o).mono h.size)
theorem blw_next {w V V' : World} (h : Below w.heap.size w V) (hB : Below V.heap.size V V') : Below w.heap.size w V' := h.trans (hB.mono h.size)
theorem RowN.zero (V : World) (T : TypeId) : RowN (V.alloc (.cells #[.int .i64 0, .int .i64 0, .int .i64 0, .int .i64 0, .int .i64 0, .int .i64 0] T)) V.heap.size 6 (fun _ => 0) := by
  refine ⟨by simp, fun i hi => ?_, fun i hi => ?_⟩
  · have : i = 0 ∨ i = 1 ∨ i = 2 ∨ i = 3 ∨ i = 4 ∨ i = 5 := by omega
    rcases this with rfl | rfl | rfl | rfl | rfl | rfl <;> simp [go_sem]
  · have : i = 0 ∨ i = 1 ∨ i = 2 ∨ i = 3 ∨ i = 4 ∨ i = 5 := by omega
    rcases this with rfl | rfl | rfl | rfl | rfl | rfl <;> simp [go_sem]
theorem RowN.alloc {V : World} {b n : Nat} {f : Nat → Int} (h : RowN V b n f) (o : Obj) : RowN (V.alloc o) b n f := h.next (alloc_below V o)
end Go.Proofs.YtnjedigjabijcaaDoor

namespace Go.Proofs.YtnjedigjabijcaaDoor
open Go Go.RowKit

theorem norm_at {f : Nat → Nat} (hf : Norm f) (k : Nat) (h1 : 1 ≤ k) (h2 : k ≤ 5) : f k < 1000000000 := by
  obtain ⟨a1, a2, a3, a4, a5⟩ := hf
  have e : k = 1 ∨ k = 2 ∨ k = 3 ∨ k = 4 ∨ k = 5 := by omega
  rcases e with rfl | rfl | rfl | rfl | rfl <;> assumption
theorem cP_bd (f g : Nat → Nat) (hf : Norm f) (hg : Norm g) (n : Nat) (hn : n ≤ 5) : cP f g n ≤ 1 := by
  induction n with
  | zero => exact Nat.zero_le _
  | succ n ih =>
    have := ih (by omega)
    have a := norm_at hf (5 - n) (by omega) (by omega)
    have b := norm_at hg (5 - n) (by omega) (by omega)
    unfold cP
    omega
/-- The cells of the first number when the parts behind k are summed. -/
def midP (f g : Nat → Nat) (k i : Nat) : Int := if k < i then ((sP f g i : Nat) : Int) else ((f i : Nat) : Int)
def PlusRel (f g : Nat → Nat) (w : World) (c i : Value) (wr : World) : Prop :=
  ∃ k : Nat, k ≤ 5 ∧ c = .int .i64 ((cP f g (5 - k) : Nat) : Int) ∧ i = .int .i64 ((k : Nat) : Int) ∧ Below w.heap.size w wr ∧ RowN wr w.heap.size 6 (midP f g k) ∧ RowN wr (w.heap.size + 1) 6 (fun j => ((g j : Nat) : Int)) ∧ RowN wr (w.heap.size + 1 + 1) 6 (fun _ => 0)
theorem plus_step (f g : Nat → Nat) (w wr : World) (k : Nat) (h1 : 1 ≤ k) (h5 : k ≤ 5) (hB : Below w.heap.size w wr) (hx : RowN wr w.heap.size 6 (midP f g k)) (hy : RowN wr (w.heap.size + 1) 6 (fun j => ((g j : Nat) : Int))) (hz : RowN wr (w.heap.size + 1 + 1) 6 (fun _ => 0))
    (n : Int) (hn : n = ((f k : Nat) : Int) + ((g k : Nat) : Int) + ((cP f g (5 - k) : Nat) : Int)) :
    PlusRel f g w (.int .i64 (n / 1000000000)) (.int .i64 ((k : Int) - 1)) (wr.setCell ⟨w.heap.size, k, none⟩ (.int .i64 (n % 1000000000))) := by
  obtain ⟨m, rfl⟩ : ∃ m, k = m + 1 := ⟨k - 1, by omega⟩
  refine ⟨m, by omega, ?_, by go_num, hB.setCell (by simp) _, ?_, hy.far _ (by simp) _, hz.far _ (by simp; omega) _⟩
  · have e : cP f g (5 - m) = (f (m + 1) + g (m + 1) + cP f g (5 - (m + 1))) / 1000000000 := by
      rw [show 5 - m = 4 - m + 1 by omega]
      show (f (5 - (4 - m)) + g (5 - (4 - m)) + cP f g (4 - m)) / 1000000000 = _
      rw [show 5 - (4 - m) = m + 1 by omega, show 5 - (m + 1) = 4 - m by omega]
    rw [e, hn]
    congr 1
  · refine hx.set (m + 1) (by omega) _ _ ?_ ?_
    · show _ = (if m < m + 1 then ((sP f g (m + 1) : Nat) : Int) else _)
      rw [if_pos (by omega)]
      show _ = (((f (m + 1) + g (m + 1) + cP f g (4 - m)) % 1000000000 : Nat) : Int)
      rw [show 5 - (m + 1) = 4 - m by omega] at hn
      omega
    · intro i hi hne
      unfold midP
      by_cases c : m < i
      · rw [if_pos c, if_pos (by omega)]
      · rw [if_neg c, if_neg (by omega)]

set_option maxHeartbeats 4000000 in
theorem plus_any (f g : Nat → Nat) (hf : Norm f) (hg : Norm g) (f0 : f 0 < 1000000000) (g0 : g 0 < 1000000000) (w : World) :
    Calls Tryd.prog 96 #[longF f, longF g] w fun e w' => e = .returned (longF (sP f g)) ∧ Below w.heap.size w w' := by
  have SX := ((RowN.six w f 94).alloc (.cells #[.int .i64 ((g 0 : Nat) : Int), .int .i64 ((g 1 : Nat) : Int), .int .i64 ((g 2 : Nat) : Int), .int .i64 ((g 3 : Nat) : Int), .int .i64 ((g 4 : Nat) : Int), .int .i64 ((g 5 : Nat) : Int)] 94)).alloc (.cells #[.int .i64 0, .int .i64 0, .int .i64 0, .int .i64 0, .int .i64 0, .int .i64 0] 94)
  have SY := (RowN.six (w.alloc (.cells #[.int .i64 ((f 0 : Nat) : Int), .int .i64 ((f 1 : Nat) : Int), .int .i64 ((f 2 : Nat) : Int), .int .i64 ((f 3 : Nat) : Int), .int .i64 ((f 4 : Nat) : Int), .int .i64 ((f 5 : Nat) : Int)] 94)) g 94).alloc (.cells #[.int .i64 0, .int .i64 0, .int .i64 0, .int .i64 0, .int .i64 0, .int .i64 0] 94)
  have SZ := RowN.zero ((w.alloc (.cells #[.int .i64 ((f 0 : Nat) : Int), .int .i64 ((f 1 : Nat) : Int), .int .i64 ((f 2 : Nat) : Int), .int .i64 ((f 3 : Nat) : Int), .int .i64 ((f 4 : Nat) : Int), .int .i64 ((f 5 : Nat) : Int)] 94)).alloc (.cells #[.int .i64 ((g 0 : Nat) : Int), .int .i64 ((g 1 : Nat) : Int), .int .i64 ((g 2 : Nat) : Int), .int .i64 ((g 3 : Nat) : Int), .int .i64 ((g 4 : Nat) : Int), .int .i64 ((g 5 : Nat) : Int)] 94)) 94
  have HW := blw_alloc (blw_alloc (alloc_below w (.cells #[.int .i64 ((f 0 : Nat) : Int), .int .i64 ((f 1 : Nat) : Int), .int .i64 ((f 2 : Nat) : Int), .int .i64 ((f 3 : Nat) : Int), .int .i64 ((f 4 : Nat) : Int), .int .i64 ((f 5 : Nat) : Int)] 94)) (.cells #[.int .i64 ((g 0 : Nat) : Int), .int .i64 ((g 1 : Nat) : Int), .int .i64 ((g 2 : Nat) : Int), .int .i64 ((g 3 : Nat) : Int), .int .i64 ((g 4 : Nat) : Int), .int .i64 ((g 5 : Nat) : Int)] 94)) (.cells #[.int .i64 0, .int .i64 0, .int .i64 0, .int .i64 0, .int .i64 0, .int .i64 0] 94)
  simp only [World.size_alloc] at SY SZ
  unfold longF
  have HX := Lib.hid SX
  have HY := Lib.hid SY
  have HZ := Lib.hid SZ
  have HB := Lib.hid HW
  clear SX SY SZ HW
  go_enter Tryd.func96, Tryd.ntmps96
  go_wp2_with fail
  go_loopw [5, 6] (fun c i wr => PlusRel f g w c i wr) (fun _ i _ => (intOf i).toNat)
  case atStart => exact ⟨5, by omega, rfl, rfl, HB.out, HX.out.congr (g := midP f g 5) (fun i hi => by unfold midP; rw [if_neg (by omega)]), HY.out, HZ.out⟩
  case round =>
    clear HX HY HZ HB
    obtain ⟨k, k5, rfl, rfl, hB, hX, hY, hZ⟩ := hrel
    have cb := cP_bd f g hf hg (5 - k) (by omega)
    by_cases h1 : 1 ≤ k
    · have ck := hX.cell k (by omega)
      have fk := hX.free k (by omega)
      have dk := hY.cell k (by omega)
      simp only [midP, if_neg (Nat.lt_irrefl k)] at ck
      have bf := norm_at hf k h1 k5
      have bg := norm_at hg k h1 k5
      have ST := Lib.hid (fun m => plus_step f g w (wr.drewN m) k h1 k5 (below_drewN hB m) (hX.drawn m) (hY.drawn m) (hZ.drawn m))
      clear hB hX hY hZ
      generalize cP f g (5 - k) = c at *
      generalize hF : f k = fk' at *
      generalize hG : g k = gk' at *
      go_wp2_with fail
      go_quiet (fail)
      go_wp2_with fail
      go_roundw
      case rel => exact ST.out _ _ rfl
      case measure => simp [intOf]; omega
    · obtain rfl : k = 0 := by omega
      have c0 := hX.cell 0 (by omega)
      have d0 := hY.cell 0 (by omega)
      have z0 := hX.free 0 (by omega)
      simp only [midP, if_neg (Nat.lt_irrefl 0)] at c0
      have EQ : Hid (((f 0 : Nat) : Int) + ((g 0 : Nat) : Int) + ((cP f g (5 - 0) : Nat) : Int) = ((sP f g 0 : Nat) : Int)) := Lib.hid (by
        show _ = ((f 0 + g 0 + cP f g (5 - 0) : Nat) : Int)
        omega)
      have c1 := hX.cell 1 (by omega)
      have c2 := hX.cell 2 (by omega)
      have c3 := hX.cell 3 (by omega)
      have c4 := hX.cell 4 (by omega)
      have c5 := hX.cell 5 (by omega)
      simp only [midP, if_pos (show 0 < 1 by omega), if_pos (show 0 < 2 by omega), if_pos (show 0 < 3 by omega), if_pos (show 0 < 4 by omega), if_pos (show 0 < 5 by omega)] at c1 c2 c3 c4 c5
      have s0 := hZ.cell 0 (by omega)
      have s1 := hZ.cell 1 (by omega)
      have s2 := hZ.cell 2 (by omega)
      have s3 := hZ.cell 3 (by omega)
      have s4 := hZ.cell 4 (by omega)
      have s5 := hZ.cell 5 (by omega)
      have t0 := hZ.free 0 (by omega)
      have t1 := hZ.free 1 (by omega)
      have t2 := hZ.free 2 (by omega)
      have t3 := hZ.free 3 (by omega)
      have t4 := hZ.free 4 (by omega)
      have t5 := hZ.free 5 (by omega)
      have HB := Lib.hid hB
      have HZ := Lib.hid hZ
      clear hB hX hY hZ hf hg
      generalize cP f g (5 - 0) = c at *
      go_wp2_with fail
      have SF := (HZ.out.far ⟨w.heap.size, 0, none⟩ (by simp only; omega) (.int .i64 ((sP f g 0 : Nat) : Int))).six_set (fun j => ((sP f g j : Nat) : Int))
      have q0 := SF.cell 0 (by omega)
      have q1 := SF.cell 1 (by omega)
      have q2 := SF.cell 2 (by omega)
      have q3 := SF.cell 3 (by omega)
      have q4 := SF.cell 4 (by omega)
      have q5 := SF.cell 5 (by omega)
      rw [EQ.out]
      refine bodyPost_ret (v := .agg #[.int .i64 ((sP f g 0 : Nat) : Int), .int .i64 ((sP f g 1 : Nat) : Int), .int .i64 ((sP f g 2 : Nat) : Int), .int .i64 ((sP f g 3 : Nat) : Int), .int .i64 ((sP f g 4 : Nat) : Int), .int .i64 ((sP f g 5 : Nat) : Int)])
        (by simp [results, Tryd.results96, go_sem, q0, q1, q2, q3, q4, q5]) rfl ⟨rfl, below_six (HB.out.setCell (p := ⟨w.heap.size, 0, none⟩) (by simp only; omega) _) (by omega) (fun j => ((sP f g j : Nat) : Int))⟩
end Go.Proofs.YtnjedigjabijcaaDoor

namespace Go.Proofs.YtnjedigjabijcaaDoor
open Go Go.RowKit

/-- The cells of the first number when the parts behind k are subtracted. -/
def midM (f g : Nat → Nat) (k i : Nat) : Int := if k < i then ((sM f g i : Nat) : Int) else if i = k then ((f i : Nat) : Int) - ((bM f g (5 - k) : Nat) : Int) else ((f i : Nat) : Int)
def MinusRel (f g : Nat → Nat) (w : World) (i : Value) (wr : World) : Prop :=
  ∃ k : Nat, k ≤ 5 ∧ i = .int .i64 ((k : Nat) : Int) ∧ Below w.heap.size w wr ∧ RowN wr w.heap.size 6 (midM f g k) ∧ RowN wr (w.heap.size + 1) 6 (fun j => ((g j : Nat) : Int)) ∧ RowN wr (w.heap.size + 1 + 1) 6 (fun _ => 0)

theorem blw_drew {B : Nat} {a w : World} (h : Below B a w) : Below B a w.drew := ⟨h.os, h.tape, h.output, h.size, h.block⟩
theorem RowN.drew {V : World} {b n : Nat} {f : Nat → Int} (h : RowN V b n f) : RowN V.drew b n f := ⟨h.lies, h.cell, h.free⟩
theorem bM_at (f g : Nat → Nat) (m : Nat) (hm : m ≤ 4) : bM f g (5 - m) = if f (m + 1) < g (m + 1) + bM f g (5 - (m + 1)) then 1 else 0 := by
  rw [show 5 - m = 4 - m + 1 by omega, show 5 - (m + 1) = 4 - m by omega]
  show (if f (5 - (4 - m)) < g (5 - (4 - m)) + bM f g (4 - m) then 1 else 0) = _
  rw [show 5 - (4 - m) = m + 1 by omega]
theorem sM_at (f g : Nat → Nat) (m : Nat) : sM f g (m + 1) = f (m + 1) + (if f (m + 1) < g (m + 1) + bM f g (5 - (m + 1)) then 1000000000 else 0) - g (m + 1) - bM f g (5 - (m + 1)) := by
  rw [show 5 - (m + 1) = 4 - m by omega]
  rfl
theorem minus_low (f g : Nat → Nat) (w wr : World) (m : Nat) (hm : m + 1 ≤ 5) (hB : Below w.heap.size w wr) (hX : RowN wr w.heap.size 6 (midM f g (m + 1))) (hY : RowN wr (w.heap.size + 1) 6 (fun j => ((g j : Nat) : Int))) (hZ : RowN wr (w.heap.size + 1 + 1) 6 (fun _ => 0))
    (x y z : Int) (h : f (m + 1) < g (m + 1) + bM f g (5 - (m + 1))) (bg : g (m + 1) < 1000000000) (hy : y = ((f (m + 1) : Nat) : Int) - ((bM f g (5 - (m + 1)) : Nat) : Int) - ((g (m + 1) : Nat) : Int) + 1000000000) (hz : z = ((f m : Nat) : Int) - 1) :
    MinusRel f g w (.int .i64 (m : Int)) (((wr.setCell ⟨w.heap.size, m + 1, none⟩ (.int .i64 x)).setCell ⟨w.heap.size, m + 1, none⟩ (.int .i64 y)).setCell ⟨w.heap.size, m, none⟩ (.int .i64 z)).drew.drew := by
  have bb := bM_le f g (5 - (m + 1))
  refine ⟨m, by omega, rfl, blw_drew (blw_drew (((hB.setCell (p := ⟨w.heap.size, m + 1, none⟩) (by simp) _).setCell (p := ⟨w.heap.size, m + 1, none⟩) (by simp) _).setCell (p := ⟨w.heap.size, m, none⟩) (by simp) _)), ?_,
    (((hY.far _ (by simp) _).far _ (by simp) _).far _ (by simp) _).drew.drew, (((hZ.far _ (by simp only; omega) _).far _ (by simp only; omega) _).far _ (by simp only; omega) _).drew.drew⟩
  have r1 := hX.set (m + 1) (by omega) x (fun i => if i = m + 1 then x else midM f g (m + 1) i) (by simp) (fun i _ hi => by simp [hi])
  have r2 := r1.set (m + 1) (by omega) y (fun i => if i = m + 1 then y else midM f g (m + 1) i) (by simp) (fun i _ hi => by simp [hi])
  refine (r2.set m (by omega) z (midM f g m) ?_ ?_).drew.drew
  · unfold midM
    rw [if_neg (Nat.lt_irrefl m), if_pos rfl, bM_at f g m (by omega), if_pos h, hz]
    rfl
  · intro i hi hne
    unfold midM
    by_cases c : i = m + 1
    · subst c
      rw [if_pos (by omega), if_pos rfl, hy, sM_at, if_pos h]
      omega
    · rw [if_neg c, if_neg c]
      by_cases d : m < i
      · rw [if_pos d, if_pos (by omega)]
      · rw [if_neg d, if_neg hne, if_neg (by omega)]
theorem minus_high (f g : Nat → Nat) (w wr : World) (m : Nat) (hm : m + 1 ≤ 5) (hB : Below w.heap.size w wr) (hX : RowN wr w.heap.size 6 (midM f g (m + 1))) (hY : RowN wr (w.heap.size + 1) 6 (fun j => ((g j : Nat) : Int))) (hZ : RowN wr (w.heap.size + 1 + 1) 6 (fun _ => 0))
    (x : Int) (h : ¬ f (m + 1) < g (m + 1) + bM f g (5 - (m + 1))) (hx : x = ((f (m + 1) : Nat) : Int) - ((bM f g (5 - (m + 1)) : Nat) : Int) - ((g (m + 1) : Nat) : Int)) :
    MinusRel f g w (.int .i64 (m : Int)) (wr.setCell ⟨w.heap.size, m + 1, none⟩ (.int .i64 x)).drew := by
  refine ⟨m, by omega, rfl, blw_drew (hB.setCell (p := ⟨w.heap.size, m + 1, none⟩) (by simp) _), ?_, (hY.far _ (by simp) _).drew, (hZ.far _ (by simp only; omega) _).drew⟩
  refine (hX.set (m + 1) (by omega) x (midM f g m) ?_ ?_).drew
  · have l : midM f g m (m + 1) = ((sM f g (m + 1) : Nat) : Int) := if_pos (Nat.lt_succ_self m)
    rw [l, hx, sM_at, if_neg h]
    omega
  · intro i hi hne
    have l1 : midM f g (m + 1) i = if m < i then ((sM f g i : Nat) : Int) else ((f i : Nat) : Int) := by
      unfold midM
      by_cases d : m < i
      · rw [if_pos d, if_pos (show m + 1 < i by omega)]
      · rw [if_neg d, if_neg (show ¬ m + 1 < i by omega), if_neg hne]
    rw [l1]
    unfold midM
    by_cases d : m < i
    · rw [if_pos d, if_pos d]
    · rw [if_neg d, if_neg d]
      by_cases e : i = m
      · subst e
        rw [if_pos rfl, bM_at f g i (by omega), if_neg h]
        simp
      · rw [if_neg e]

set_option maxHeartbeats 4000000 in
theorem minus_any (f g : Nat → Nat) (hf : Norm f) (hg : Norm g) (hle : lv g ≤ lv f) (f0 : f 0 < 1000000000) (g0 : g 0 < 1000000000) (w : World) :
    Calls Tryd.prog 97 #[longF f, longF g] w fun e w' => e = .returned (longF (sM f g)) ∧ Below w.heap.size w w' := by
  have SX := ((RowN.six w f 94).alloc (.cells #[.int .i64 ((g 0 : Nat) : Int), .int .i64 ((g 1 : Nat) : Int), .int .i64 ((g 2 : Nat) : Int), .int .i64 ((g 3 : Nat) : Int), .int .i64 ((g 4 : Nat) : Int), .int .i64 ((g 5 : Nat) : Int)] 94)).alloc (.cells #[.int .i64 0, .int .i64 0, .int .i64 0, .int .i64 0, .int .i64 0, .int .i64 0] 94)
  have SY := (RowN.six (w.alloc (.cells #[.int .i64 ((f 0 : Nat) : Int), .int .i64 ((f 1 : Nat) : Int), .int .i64 ((f 2 : Nat) : Int), .int .i64 ((f 3 : Nat) : Int), .int .i64 ((f 4 : Nat) : Int), .int .i64 ((f 5 : Nat) : Int)] 94)) g 94).alloc (.cells #[.int .i64 0, .int .i64 0, .int .i64 0, .int .i64 0, .int .i64 0, .int .i64 0] 94)
  have SZ := RowN.zero ((w.alloc (.cells #[.int .i64 ((f 0 : Nat) : Int), .int .i64 ((f 1 : Nat) : Int), .int .i64 ((f 2 : Nat) : Int), .int .i64 ((f 3 : Nat) : Int), .int .i64 ((f 4 : Nat) : Int), .int .i64 ((f 5 : Nat) : Int)] 94)).alloc (.cells #[.int .i64 ((g 0 : Nat) : Int), .int .i64 ((g 1 : Nat) : Int), .int .i64 ((g 2 : Nat) : Int), .int .i64 ((g 3 : Nat) : Int), .int .i64 ((g 4 : Nat) : Int), .int .i64 ((g 5 : Nat) : Int)] 94)) 94
  have HW := blw_alloc (blw_alloc (alloc_below w (.cells #[.int .i64 ((f 0 : Nat) : Int), .int .i64 ((f 1 : Nat) : Int), .int .i64 ((f 2 : Nat) : Int), .int .i64 ((f 3 : Nat) : Int), .int .i64 ((f 4 : Nat) : Int), .int .i64 ((f 5 : Nat) : Int)] 94)) (.cells #[.int .i64 ((g 0 : Nat) : Int), .int .i64 ((g 1 : Nat) : Int), .int .i64 ((g 2 : Nat) : Int), .int .i64 ((g 3 : Nat) : Int), .int .i64 ((g 4 : Nat) : Int), .int .i64 ((g 5 : Nat) : Int)] 94)) (.cells #[.int .i64 0, .int .i64 0, .int .i64 0, .int .i64 0, .int .i64 0, .int .i64 0] 94)
  simp only [World.size_alloc] at SY SZ
  unfold longF
  have HX := Lib.hid SX
  have HY := Lib.hid SY
  have HZ := Lib.hid SZ
  have HB := Lib.hid HW
  clear SX SY SZ HW
  go_enter Tryd.func97, Tryd.ntmps97
  go_wp2_with fail
  go_loopw [5] (fun i wr => MinusRel f g w i wr) (fun i _ => (intOf i).toNat)
  case atStart => exact ⟨5, by omega, rfl, HB.out, HX.out.congr (g := midM f g 5) (fun i hi => by unfold midM; rw [if_neg (by omega)]; split <;> simp [bM]), HY.out, HZ.out⟩
  case round =>
    clear HX HY HZ HB
    obtain ⟨k, k5, rfl, hB, hX, hY, hZ⟩ := hrel
    by_cases h1 : 1 ≤ k
    · have bb := bM_le f g (5 - k)
      have ck := hX.cell k (by omega)
      have fk := hX.free k (by omega)
      have dk := hY.cell k (by omega)
      have cj := hX.cell (k - 1) (by omega)
      have fj := hX.free (k - 1) (by omega)
      simp only [midM, if_neg (Nat.lt_irrefl k)] at ck
      rw [if_pos trivial] at ck
      simp only [midM, if_neg (show ¬ k < k - 1 by omega), if_neg (show ¬ k - 1 = k by omega)] at cj
      have bf := norm_at hf k h1 k5
      have bg := norm_at hg k h1 k5
      have bj : f (k - 1) < 1000000000 := by
        rcases Nat.eq_zero_or_pos (k - 1) with z | z
        · rw [z]; exact f0
        · exact norm_at hf (k - 1) z (by omega)
      obtain ⟨m, rfl⟩ : ∃ m, k = m + 1 := ⟨k - 1, by omega⟩
      simp only [Nat.add_sub_cancel] at cj fj bj
      have LO := Lib.hid (minus_low f g w wr m k5 hB hX hY hZ)
      have HI := Lib.hid (minus_high f g w wr m k5 hB hX hY hZ)
      clear hX hY hZ hB hf hg hle
      generalize bM f g (5 - (m + 1)) = c at *
      generalize f (m + 1) = fk' at *
      generalize g (m + 1) = gk' at *
      generalize f m = fj' at *
      go_wp2_with fail
      go_region
      all_goals (go_wp2_with fail)
      · go_region
        all_goals (go_wp2_with fail)
        go_roundw
        case rel => exact LO.out _ _ _ (by omega) bg (by omega) rfl
        case measure => simp [intOf]
      · go_roundw
        case rel => exact HI.out _ (by omega) rfl
        case measure => simp [intOf]
    · obtain rfl : k = 0 := by omega
      have c0 := hX.cell 0 (by omega)
      have d0 := hY.cell 0 (by omega)
      have z0 := hX.free 0 (by omega)
      simp only [midM, if_neg (Nat.lt_irrefl 0)] at c0
      have EQ : Hid (((f 0 : Nat) : Int) - ((bM f g (5 - 0) : Nat) : Int) - ((g 0 : Nat) : Int) = ((sM f g 0 : Nat) : Int)) := Lib.hid (by
        have top := (sM_ok f g hf hg hle).2.2
        show _ = ((f 0 - g 0 - bM f g 5 : Nat) : Int)
        rw [show 5 - 0 = 5 from rfl]
        omega)
      have bb := bM_le f g (5 - 0)
      have c1 := hX.cell 1 (by omega)
      have c2 := hX.cell 2 (by omega)
      have c3 := hX.cell 3 (by omega)
      have c4 := hX.cell 4 (by omega)
      have c5 := hX.cell 5 (by omega)
      simp only [midM, if_pos (show 0 < 1 by omega), if_pos (show 0 < 2 by omega), if_pos (show 0 < 3 by omega), if_pos (show 0 < 4 by omega), if_pos (show 0 < 5 by omega)] at c1 c2 c3 c4 c5
      have s0 := hZ.cell 0 (by omega)
      have s1 := hZ.cell 1 (by omega)
      have s2 := hZ.cell 2 (by omega)
      have s3 := hZ.cell 3 (by omega)
      have s4 := hZ.cell 4 (by omega)
      have s5 := hZ.cell 5 (by omega)
      have t0 := hZ.free 0 (by omega)
      have t1 := hZ.free 1 (by omega)
      have t2 := hZ.free 2 (by omega)
      have t3 := hZ.free 3 (by omega)
      have t4 := hZ.free 4 (by omega)
      have t5 := hZ.free 5 (by omega)
      have HB := Lib.hid hB
      have HZ := Lib.hid hZ
      clear hB hX hY hZ hf hg hle
      generalize bM f g (5 - 0) = c at *
      go_wp2_with fail
      have SF := (HZ.out.far ⟨w.heap.size, 0, none⟩ (by simp only; omega) (.int .i64 ((sM f g 0 : Nat) : Int))).six_set (fun j => ((sM f g j : Nat) : Int))
      have q0 := SF.cell 0 (by omega)
      have q1 := SF.cell 1 (by omega)
      have q2 := SF.cell 2 (by omega)
      have q3 := SF.cell 3 (by omega)
      have q4 := SF.cell 4 (by omega)
      have q5 := SF.cell 5 (by omega)
      rw [EQ.out]
      refine bodyPost_ret (v := .agg #[.int .i64 ((sM f g 0 : Nat) : Int), .int .i64 ((sM f g 1 : Nat) : Int), .int .i64 ((sM f g 2 : Nat) : Int), .int .i64 ((sM f g 3 : Nat) : Int), .int .i64 ((sM f g 4 : Nat) : Int), .int .i64 ((sM f g 5 : Nat) : Int)])
        (by simp [results, Tryd.results97, go_sem, q0, q1, q2, q3, q4, q5]) rfl ⟨rfl, below_six (HB.out.setCell (p := ⟨w.heap.size, 0, none⟩) (by simp only; omega) _) (by omega) (fun j => ((sM f g j : Nat) : Int))⟩
end Go.Proofs.YtnjedigjabijcaaDoor

namespace Go.Proofs.YtnjedigjabijcaaDoor
open Go Go.RowKit

theorem cS_le (f : Nat → Nat) (n : Nat) (hf : Norm f) (k : Nat) (hk : k ≤ 5) : cS f n k ≤ n := by
  induction k with
  | zero => exact Nat.zero_le _
  | succ k ih =>
    have c := ih (by omega)
    have a := norm_at hf (5 - k) (by omega) (by omega)
    have m : f (5 - k) * n ≤ 999999999 * n := Nat.mul_le_mul_right _ (by omega)
    show (f (5 - k) * n + cS f n k) / 1000000000 ≤ n
    omega
def midS (f : Nat → Nat) (n k i : Nat) : Int := if k < i then ((sS f n i : Nat) : Int) else ((f i : Nat) : Int)
def ScaleRel (f : Nat → Nat) (n : Nat) (w : World) (c i : Value) (wr : World) : Prop :=
  ∃ k : Nat, k ≤ 5 ∧ c = .int .i64 ((cS f n (5 - k) : Nat) : Int) ∧ i = .int .i64 ((k : Nat) : Int) ∧ Below w.heap.size w wr ∧ RowN wr w.heap.size 6 (midS f n k) ∧ RowN wr (w.heap.size + 1) 6 (fun _ => 0)
theorem scale_step (f : Nat → Nat) (n : Nat) (w wr : World) (m : Nat) (h5 : m + 1 ≤ 5) (hB : Below w.heap.size w wr) (hX : RowN wr w.heap.size 6 (midS f n (m + 1))) (hZ : RowN wr (w.heap.size + 1) 6 (fun _ => 0))
    (v : Int) (hv : v = ((f (m + 1) * n : Nat) : Int) + ((cS f n (5 - (m + 1)) : Nat) : Int)) :
    ScaleRel f n w (.int .i64 (v / 1000000000)) (.int .i64 (m : Int)) (wr.setCell ⟨w.heap.size, m + 1, none⟩ (.int .i64 (v % 1000000000))) := by
  have e4 : 5 - (m + 1) = 4 - m := by omega
  rw [e4] at hv
  refine ⟨m, by omega, ?_, rfl, hB.setCell (by simp) _, ?_, hZ.far _ (by simp) _⟩
  · have e : cS f n (5 - m) = (f (m + 1) * n + cS f n (4 - m)) / 1000000000 := by
      rw [show 5 - m = 4 - m + 1 by omega]
      show (f (5 - (4 - m)) * n + cS f n (4 - m)) / 1000000000 = _
      rw [show 5 - (4 - m) = m + 1 by omega]
    rw [e, hv]
    congr 1
  · refine hX.set (m + 1) (by omega) _ _ ?_ ?_
    · have l : midS f n m (m + 1) = ((sS f n (m + 1) : Nat) : Int) := if_pos (Nat.lt_succ_self m)
      rw [l, hv]
      show _ = (((f (m + 1) * n + cS f n (4 - m)) % 1000000000 : Nat) : Int)
      generalize f (m + 1) * n = p
      omega
    · intro i hi hne
      unfold midS
      by_cases c : m < i
      · rw [if_pos c, if_pos (by omega)]
      · rw [if_neg c, if_neg (by omega)]
def midD (s : Nat → Nat) (d k i : Nat) : Int := if i < k then ((sD s d i : Nat) : Int) else ((s i : Nat) : Int)
def QuotRel (s : Nat → Nat) (d : Nat) (w : World) (r i : Value) (wr : World) : Prop :=
  ∃ k : Nat, k ≤ 6 ∧ r = .int .i64 ((rD s d k : Nat) : Int) ∧ i = .int .i64 ((k : Nat) : Int) ∧ Below w.heap.size w wr ∧ RowN wr w.heap.size 6 (midD s d k) ∧ RowN wr (w.heap.size + 1) 6 (fun _ => 0)
theorem quot_step (s : Nat → Nat) (d : Nat) (w wr : World) (k : Nat) (h5 : k < 6) (hB : Below w.heap.size w wr) (hX : RowN wr w.heap.size 6 (midD s d k)) (hZ : RowN wr (w.heap.size + 1) 6 (fun _ => 0))
    (v q r : Int) (hv : v = ((rD s d k * 1000000000 + s k : Nat) : Int)) (hq : q = v / (d : Int)) (hr : r = v % (d : Int)) :
    QuotRel s d w (.int .i64 r) (.int .i64 ((k : Int) + 1)) (wr.setCell ⟨w.heap.size, k, none⟩ (.int .i64 q)) := by
  refine ⟨k + 1, by omega, ?_, by go_num, hB.setCell (by simp) _, ?_, hZ.far _ (by simp) _⟩
  · rw [hr, hv, ← Int.natCast_emod]
    rfl
  · refine hX.set k (by omega) _ _ ?_ ?_
    · have l : midD s d (k + 1) k = ((sD s d k : Nat) : Int) := if_pos (Nat.lt_succ_self k)
      rw [l, hq, hv, ← Int.natCast_ediv]
      rfl
    · intro i hi hne
      unfold midD
      by_cases c : i < k
      · rw [if_pos c, if_pos (by omega)]
      · rw [if_neg c, if_neg (by omega)]
theorem quot_drew {s : Nat → Nat} {d : Nat} {w V : World} {r i : Value} (h : QuotRel s d w r i V) : QuotRel s d w r i V.drew := by
  obtain ⟨k, h1, h2, h3, h4, h5, h6⟩ := h
  exact ⟨k, h1, h2, h3, blw_drew h4, h5.drew, h6.drew⟩
end Go.Proofs.YtnjedigjabijcaaDoor

namespace Go.Proofs.YtnjedigjabijcaaDoor
open Go Go.RowKit

set_option maxHeartbeats 8000000 in
theorem scaled_any (f : Nat → Nat) (n d : Nat) (hf : Norm f) (f0 : f 0 < 1000000000) (n1 : 1 ≤ n) (n2 : n ≤ 90000000) (d1 : 1 ≤ d) (d2 : d ≤ 180000000) (w : World) :
    Calls Tryd.prog 93 #[longF f, .int .i64 ((n : Nat) : Int), .int .i64 ((d : Nat) : Int)] w fun e w' => e = .returned (longF (sD (sS f n) d)) ∧ Below w.heap.size w w' := by
  have SX := (RowN.six w f 94).alloc (.cells #[.int .i64 0, .int .i64 0, .int .i64 0, .int .i64 0, .int .i64 0, .int .i64 0] 94)
  have SZ := RowN.zero (w.alloc (.cells #[.int .i64 ((f 0 : Nat) : Int), .int .i64 ((f 1 : Nat) : Int), .int .i64 ((f 2 : Nat) : Int), .int .i64 ((f 3 : Nat) : Int), .int .i64 ((f 4 : Nat) : Int), .int .i64 ((f 5 : Nat) : Int)] 94)) 94
  have HW := blw_alloc (alloc_below w (.cells #[.int .i64 ((f 0 : Nat) : Int), .int .i64 ((f 1 : Nat) : Int), .int .i64 ((f 2 : Nat) : Int), .int .i64 ((f 3 : Nat) : Int), .int .i64 ((f 4 : Nat) : Int), .int .i64 ((f 5 : Nat) : Int)] 94)) (.cells #[.int .i64 0, .int .i64 0, .int .i64 0, .int .i64 0, .int .i64 0, .int .i64 0] 94)
  simp only [World.size_alloc] at SZ
  unfold longF
  have HX := Lib.hid SX
  have HZ := Lib.hid SZ
  have HB := Lib.hid HW
  clear SX SZ HW
  go_enter Tryd.func93, Tryd.ntmps93
  go_wp2_with fail
  go_loopw [7, 8] (fun c i wr => ScaleRel f n w c i wr) (fun _ i _ => (intOf i).toNat)
  case atStart => exact ⟨5, by omega, rfl, rfl, HB.out, HX.out.congr (g := midS f n 5) (fun i hi => by unfold midS; rw [if_neg (by omega)]), HZ.out⟩
  case round =>
    clear HX HZ HB
    obtain ⟨k, k5, rfl, rfl, hB, hX, hZ⟩ := hrel
    have cb := cS_le f n hf (5 - k) (by omega)
    by_cases h1 : 1 ≤ k
    · have ck := hX.cell k (by omega)
      have fk := hX.free k (by omega)
      simp only [midS, if_neg (Nat.lt_irrefl k)] at ck
      have bf := norm_at hf k h1 k5
      obtain ⟨m, rfl⟩ : ∃ m, k = m + 1 := ⟨k - 1, by omega⟩
      have ST := Lib.hid (scale_step f n w wr m k5 hB hX hZ)
      have pm : f (m + 1) * n ≤ 999999999 * 90000000 := Nat.mul_le_mul (by omega) n2
      have pe : ((f (m + 1) * n : Nat) : Int) = ((f (m + 1) : Nat) : Int) * ((n : Nat) : Int) := Int.natCast_mul _ _
      have p0 : 0 ≤ ((f (m + 1) : Nat) : Int) * ((n : Nat) : Int) := by rw [← pe]; omega
      have p1 : ((f (m + 1) : Nat) : Int) * ((n : Nat) : Int) ≤ 89999999910000000 := by rw [← pe]; omega
      rw [pe] at ST
      clear hB hX hZ hf pm pe
      generalize cS f n (5 - (m + 1)) = c at *
      generalize f (m + 1) = fk' at *
      go_wp2_with fail
      go_roundw
      case rel => exact ST.out _ rfl
      case measure => simp [intOf]
    · obtain rfl : k = 0 := by omega
      have c0 := hX.cell 0 (by omega)
      have t0 := hX.free 0 (by omega)
      simp only [midS, if_neg (Nat.lt_irrefl 0)] at c0
      have pm : f 0 * n ≤ 999999999 * 90000000 := Nat.mul_le_mul (by omega) n2
      have pe : ((f 0 * n : Nat) : Int) = ((f 0 : Nat) : Int) * ((n : Nat) : Int) := Int.natCast_mul _ _
      have p0 : 0 ≤ ((f 0 : Nat) : Int) * ((n : Nat) : Int) := by rw [← pe]; omega
      have p1 : ((f 0 : Nat) : Int) * ((n : Nat) : Int) ≤ 89999999910000000 := by rw [← pe]; omega
      have EQ : Hid (((f 0 : Nat) : Int) * ((n : Nat) : Int) + ((cS f n (5 - 0) : Nat) : Int) = ((sS f n 0 : Nat) : Int)) := Lib.hid (by
        rw [← pe]
        show _ = ((f 0 * n + cS f n (5 - 0) : Nat) : Int)
        omega)
      have RX := Lib.hid (hX.set 0 (by omega) _ (fun j => ((sS f n j : Nat) : Int)) EQ.out (fun i hi hne => by unfold midS; rw [if_pos (by omega)]))
      have RZ := Lib.hid (hZ.far ⟨w.heap.size, 0, none⟩ (by simp) (.int .i64 (((f 0 : Nat) : Int) * ((n : Nat) : Int) + ((cS f n (5 - 0) : Nat) : Int))))
      have RB := Lib.hid (hB.setCell (p := ⟨w.heap.size, 0, none⟩) (by simp) (.int .i64 (((f 0 : Nat) : Int) * ((n : Nat) : Int) + ((cS f n (5 - 0) : Nat) : Int))))
      have S0 : sS f n 0 ≤ 90000000090000000 := by
        show f 0 * n + cS f n 5 ≤ _
        have := cS_le f n hf 5 (by omega)
        omega
      have SN := (sS_ok f n hf).1
      clear hB hX hZ pm pe EQ
      generalize cS f n (5 - 0) = c at *
      go_wp2_with fail
      generalize wr.setCell ⟨w.heap.size, 0, none⟩ (.int .i64 (((f 0 : Nat) : Int) * ((n : Nat) : Int) + ((c : Nat) : Int))) = w1 at *
      clear p0 p1 cb c0 t0
      clear f0 hf k5 h1
      go_loopw [10, 11] (fun r i wr => QuotRel (sS f n) d w r i wr) (fun _ i _ => 6 - (intOf i).toNat)
      case atStart => exact ⟨0, by omega, rfl, rfl, RB.out, RX.out.congr (g := midD (sS f n) d 0) (fun i hi => by unfold midD; rw [if_neg (by omega)]), RZ.out⟩
      case round =>
        clear RX RZ RB
        obtain ⟨k, k6, rfl, rfl, hB, hX, hZ⟩ := hrel
        by_cases hk : k < 6
        · have ck := hX.cell k hk
          have fk := hX.free k hk
          simp only [midD, if_neg (Nat.lt_irrefl k)] at ck
          have bs : sS f n k ≤ 90000000090000000 := by
            rcases Nat.eq_zero_or_pos k with z | z
            · rw [z]; exact S0
            · exact Nat.le_of_lt (Nat.lt_of_lt_of_le (norm_at SN k z (by omega)) (by omega))
          have br := rD_lt (sS f n) d d1 k
          have ST := Lib.hid (quot_step (sS f n) d w wr k hk hB hX hZ)
          clear hB hX hZ SN S0
          generalize rD (sS f n) d k = r at *
          generalize sS f n k = x at *
          go_wp2_with fail
          go_region
          all_goals (go_wp2_with fail)
          go_roundw
          case rel => exact quot_drew (ST.out _ _ _ (by omega) rfl rfl)
          case measure => simp [intOf]; omega
        · obtain rfl : k = 6 := by omega
          have c0 := hX.cell 0 (by omega)
          have c1 := hX.cell 1 (by omega)
          have c2 := hX.cell 2 (by omega)
          have c3 := hX.cell 3 (by omega)
          have c4 := hX.cell 4 (by omega)
          have c5 := hX.cell 5 (by omega)
          simp only [midD, if_pos (show 0 < 6 by omega), if_pos (show 1 < 6 by omega), if_pos (show 2 < 6 by omega), if_pos (show 3 < 6 by omega), if_pos (show 4 < 6 by omega), if_pos (show 5 < 6 by omega)] at c0 c1 c2 c3 c4 c5
          have s0 := hZ.cell 0 (by omega)
          have s1 := hZ.cell 1 (by omega)
          have s2 := hZ.cell 2 (by omega)
          have s3 := hZ.cell 3 (by omega)
          have s4 := hZ.cell 4 (by omega)
          have s5 := hZ.cell 5 (by omega)
          have t0 := hZ.free 0 (by omega)
          have t1 := hZ.free 1 (by omega)
          have t2 := hZ.free 2 (by omega)
          have t3 := hZ.free 3 (by omega)
          have t4 := hZ.free 4 (by omega)
          have t5 := hZ.free 5 (by omega)
          have HB := Lib.hid hB
          have HZ := Lib.hid hZ
          clear hB hX hZ SN S0
          generalize rD (sS f n) d 6 = r at *
          go_wp2_with fail
          have SF := HZ.out.six_set (fun j => ((sD (sS f n) d j : Nat) : Int))
          have q0 := SF.cell 0 (by omega)
          have q1 := SF.cell 1 (by omega)
          have q2 := SF.cell 2 (by omega)
          have q3 := SF.cell 3 (by omega)
          have q4 := SF.cell 4 (by omega)
          have q5 := SF.cell 5 (by omega)
          refine bodyPost_ret (v := .agg #[.int .i64 ((sD (sS f n) d 0 : Nat) : Int), .int .i64 ((sD (sS f n) d 1 : Nat) : Int), .int .i64 ((sD (sS f n) d 2 : Nat) : Int), .int .i64 ((sD (sS f n) d 3 : Nat) : Int), .int .i64 ((sD (sS f n) d 4 : Nat) : Int), .int .i64 ((sD (sS f n) d 5 : Nat) : Int)])
            (by simp [results, Tryd.results93, go_sem, q0, q1, q2, q3, q4, q5]) rfl ⟨rfl, below_six HB.out (by omega) (fun j => ((sD (sS f n) d j : Nat) : Int))⟩
end Go.Proofs.YtnjedigjabijcaaDoor

namespace Go.Proofs.YtnjedigjabijcaaDoor
open Go Go.RowKit

theorem accT_step (f g : Nat → Nat) (i k m : Nat) (hk : k < 6) : accT f g (6 * i + (k + 1)) m = if m = i + k then accT f g (6 * i + k) m + f i * g k else accT f g (6 * i + k) m := by
  show (if m = (6 * i + k) / 6 + (6 * i + k) % 6 then accT f g (6 * i + k) m + f ((6 * i + k) / 6) * g ((6 * i + k) % 6) else accT f g (6 * i + k) m) = _
  rw [show (6 * i + k) / 6 = i by omega, show (6 * i + k) % 6 = k by omega]
theorem low_at {f : Nat → Nat} (hf : Norm f) (f0 : f 0 < 1000000000) (k : Nat) (h2 : k ≤ 5) : f k ≤ 999999999 := by
  rcases Nat.eq_zero_or_pos k with z | z
  · rw [z]; omega
  · have := norm_at hf k z h2; omega
theorem accT_bd (f g : Nat → Nat) (hf : Norm f) (hg : Norm g) (f0 : f 0 < 1000000000) (g0 : g 0 < 1000000000) (i : Nat) (hi : i ≤ 5) : ∀ k, k ≤ 6 → (∀ m, accT f g (6 * i) m ≤ i * 999999998000000001) →
    ∀ m, accT f g (6 * i + k) m ≤ i * 999999998000000001 + (if m < i + k then 999999998000000001 else 0)
  | 0, _, h, m => Nat.le_trans (h m) (Nat.le_add_right _ _)
  | k + 1, hk, h, m => by
    have ih := accT_bd f g hf hg f0 g0 i hi k (by omega) h m
    have p : f i * g k ≤ 999999999 * 999999999 := Nat.mul_le_mul (low_at hf f0 i hi) (low_at hg g0 k (by omega))
    rw [accT_step f g i k m (by omega)]
    by_cases c : m = i + k
    · rw [if_pos c, if_pos (by omega)]
      rw [if_neg (by omega)] at ih
      omega
    · rw [if_neg c]
      by_cases d : m < i + k
      · rw [if_pos d] at ih; rw [if_pos (by omega)]; exact ih
      · rw [if_neg d] at ih; rw [if_neg (by omega)]; exact ih
theorem accT_row (f g : Nat → Nat) (hf : Norm f) (hg : Norm g) (f0 : f 0 < 1000000000) (g0 : g 0 < 1000000000) : ∀ i, i ≤ 6 → ∀ m, accT f g (6 * i) m ≤ i * 999999998000000001
  | 0, _, m => by show (0 : Nat) ≤ _; exact Nat.zero_le _
  | i + 1, hi, m => by
    have b := accT_bd f g hf hg f0 g0 i (by omega) 6 (Nat.le_refl 6) (accT_row f g hf hg f0 g0 i (by omega)) m
    rw [show 6 * (i + 1) = 6 * i + 6 by omega]
    split at b <;> omega
theorem accT_all (f g : Nat → Nat) (hf : Norm f) (hg : Norm g) (f0 : f 0 < 1000000000) (g0 : g 0 < 1000000000) (i k : Nat) (hi : i ≤ 5) (hk : k ≤ 6) (m : Nat) : accT f g (6 * i + k) m ≤ 5999999988000000006 := by
  have b := accT_bd f g hf hg f0 g0 i hi k hk (accT_row f g hf hg f0 g0 i (by omega)) m
  have e : i * 999999998000000001 ≤ 5 * 999999998000000001 := Nat.mul_le_mul_right _ hi
  split at b <;> omega
theorem accT_room (f g : Nat → Nat) (hf : Norm f) (hg : Norm g) (f0 : f 0 < 1000000000) (g0 : g 0 < 1000000000) (i k : Nat) (hi : i ≤ 5) (hk : k < 6) : accT f g (6 * i + k) (i + k) ≤ 4999999990000000005 := by
  have b := accT_bd f g hf hg f0 g0 i hi k (by omega) (accT_row f g hf hg f0 g0 i (by omega)) (i + k)
  have e : i * 999999998000000001 ≤ 5 * 999999998000000001 := Nat.mul_le_mul_right _ hi
  rw [if_neg (Nat.lt_irrefl _)] at b
  omega
/-- What the boxes hold: both numbers, the result, the twelve sums. -/
structure Boxes (f g : Nat → Nat) (A : Nat → Int) (w wr : World) : Prop where
  low : Below w.heap.size w wr
  x : RowN wr w.heap.size 6 (fun j => ((f j : Nat) : Int))
  y : RowN wr (w.heap.size + 1) 6 (fun j => ((g j : Nat) : Int))
  z : RowN wr (w.heap.size + 1 + 1) 6 (fun _ => 0)
  a : RowN wr (w.heap.size + 1 + 1 + 1) 12 A
theorem Boxes.drew {f g : Nat → Nat} {A : Nat → Int} {w wr : World} (h : Boxes f g A w wr) : Boxes f g A w wr.drew := ⟨blw_drew h.low, h.x.drew, h.y.drew, h.z.drew, h.a.drew⟩
theorem Boxes.drawn {f g : Nat → Nat} {A : Nat → Int} {w wr : World} (h : Boxes f g A w wr) (n : Nat) : Boxes f g A w (wr.drewN n) := ⟨below_drewN h.low n, h.x.drawn n, h.y.drawn n, h.z.drawn n, h.a.drawn n⟩
theorem Boxes.set {f g : Nat → Nat} {A : Nat → Int} {w wr : World} (h : Boxes f g A w wr) (k : Nat) (hk : k < 12) (v : Int) (A' : Nat → Int) (hv : v = A' k) (hA : ∀ i, i < 12 → i ≠ k → A' i = A i) :
    Boxes f g A' w (wr.setCell ⟨w.heap.size + 1 + 1 + 1, k, none⟩ (.int .i64 v)) :=
  ⟨h.low.setCell (by simp only; omega) _, h.x.far _ (by simp only; omega) _, h.y.far _ (by simp only; omega) _, h.z.far _ (by simp only; omega) _, h.a.set k hk v A' hv hA⟩
def OutRel (f g : Nat → Nat) (w : World) (i : Value) (wr : World) : Prop :=
  ∃ n : Nat, n ≤ 6 ∧ i = .int .i64 ((n : Nat) : Int) ∧ Boxes f g (fun m => ((accT f g (6 * n) m : Nat) : Int)) w wr
def InRel (f g : Nat → Nat) (n : Nat) (w : World) (k : Value) (wr : World) : Prop :=
  ∃ m : Nat, m ≤ 6 ∧ k = .int .i64 ((m : Nat) : Int) ∧ Boxes f g (fun j => ((accT f g (6 * n + m) j : Nat) : Int)) w wr
theorem in_step (f g : Nat → Nat) (w wr : World) (n m : Nat) (hn : n ≤ 5) (hm : m < 6) (h : Boxes f g (fun j => ((accT f g (6 * n + m) j : Nat) : Int)) w wr) (v : Int) (hv : v = ((accT f g (6 * n + m) (n + m) : Nat) : Int) + ((f n * g m : Nat) : Int)) :
    InRel f g n w (.int .i64 ((m : Int) + 1)) (wr.setCell ⟨w.heap.size + 1 + 1 + 1, n + m, none⟩ (.int .i64 v)) := by
  refine ⟨m + 1, by omega, by go_num, h.set (n + m) (by omega) v _ ?_ ?_⟩
  · rw [accT_step f g n m _ hm, if_pos rfl, hv]
    omega
  · intro i _ hi
    rw [accT_step f g n m _ hm, if_neg hi]
theorem in_drew {f g : Nat → Nat} {n : Nat} {w V : World} {k : Value} (h : InRel f g n w k V) : InRel f g n w k V.drew := by
  obtain ⟨m, h1, h2, h3⟩ := h
  exact ⟨m, h1, h2, h3.drew⟩
def midT (A : Nat → Nat) (k j : Nat) : Int := if k < j then (((A j + cT A (11 - j)) % 1000000000 : Nat) : Int) else if j = k then ((A j + cT A (11 - j) : Nat) : Int) else ((A j : Nat) : Int)
theorem cT_bd (A : Nat → Nat) (hA : ∀ m, A m ≤ 5999999988000000006) (n : Nat) : cT A n ≤ 6000000000 := by
  induction n with
  | zero => exact Nat.zero_le _
  | succ n ih =>
    have := hA (11 - n)
    show (A (11 - n) + cT A n) / 1000000000 ≤ _
    omega
def CarRel (f g A : Nat → Nat) (w : World) (i : Value) (wr : World) : Prop :=
  ∃ k : Nat, k ≤ 11 ∧ i = .int .i64 ((k : Nat) : Int) ∧ Boxes f g (midT A k) w wr
theorem cT_at (A : Nat → Nat) (m : Nat) (hm : m ≤ 10) : cT A (11 - m) = (A (m + 1) + cT A (11 - (m + 1))) / 1000000000 := by
  rw [show 11 - m = 10 - m + 1 by omega, show 11 - (m + 1) = 10 - m by omega]
  show (A (11 - (10 - m)) + cT A (10 - m)) / 1000000000 = _
  rw [show 11 - (10 - m) = m + 1 by omega]
theorem car_step (f g A : Nat → Nat) (w wr : World) (m : Nat) (hm : m + 1 ≤ 11) (h : Boxes f g (midT A (m + 1)) w wr) (v u t : Int) (hv : v = ((A (m + 1) + cT A (11 - (m + 1)) : Nat) : Int)) (hu : u = ((A m : Nat) : Int) + v / 1000000000) (ht : t = v % 1000000000) :
    CarRel f g A w (.int .i64 (m : Int)) ((wr.setCell ⟨w.heap.size + 1 + 1 + 1, m, none⟩ (.int .i64 u)).setCell ⟨w.heap.size + 1 + 1 + 1, m + 1, none⟩ (.int .i64 t)) := by
  refine ⟨m, by omega, rfl, ?_⟩
  have r1 := h.set m (by omega) u (fun i => if i = m then u else midT A (m + 1) i) (by simp) (fun i _ hi => by simp [hi])
  refine r1.set (m + 1) (by omega) t (midT A m) ?_ ?_
  · have l : midT A m (m + 1) = (((A (m + 1) + cT A (11 - (m + 1))) % 1000000000 : Nat) : Int) := if_pos (Nat.lt_succ_self m)
    rw [l, ht, hv]
    rfl
  · intro i hi hne
    by_cases c : i = m
    · rw [if_pos c]
      subst c
      have l : midT A i i = ((A i + cT A (11 - i) : Nat) : Int) := (if_neg (Nat.lt_irrefl i)).trans (if_pos rfl)
      rw [l, hu, hv, cT_at A i (by omega)]
      omega
    · rw [if_neg c]
      unfold midT
      by_cases d : m < i
      · rw [if_pos d, if_pos (show m + 1 < i by omega)]
      · rw [if_neg d, if_neg c, if_neg (show ¬ m + 1 < i by omega), if_neg hne]
theorem car_drew {f g A : Nat → Nat} {w V : World} {k : Value} (h : CarRel f g A w k V) : CarRel f g A w k V.drew := by
  obtain ⟨m, h1, h2, h3⟩ := h
  exact ⟨m, h1, h2, h3.drew⟩
theorem mid_end (A : Nat → Nat) (j : Nat) (hj : j ≤ 11) : midT A 0 j = ((sT A j : Nat) : Int) := by
  cases j with
  | zero => exact (if_neg (Nat.lt_irrefl 0)).trans (if_pos rfl)
  | succ j =>
    refine (if_pos (Nat.succ_pos j)).trans ?_
    rw [show 11 - (j + 1) = 10 - j by omega]
    rfl
end Go.Proofs.YtnjedigjabijcaaDoor

namespace Go.Proofs.YtnjedigjabijcaaDoor
open Go Go.RowKit

set_option maxHeartbeats 8000000 in
theorem times_any (f g : Nat → Nat) (hf : Norm f) (hg : Norm g) (f0 : f 0 < 1000000000) (g0 : g 0 < 1000000000) (w : World) :
    Calls Tryd.prog 95 #[longF f, longF g] w fun e w' => e = .returned (longF (sT (accT f g 36))) ∧ Below w.heap.size w w' := by
  have SX := (((RowN.six w f 94).alloc (.cells #[.int .i64 ((g 0 : Nat) : Int), .int .i64 ((g 1 : Nat) : Int), .int .i64 ((g 2 : Nat) : Int), .int .i64 ((g 3 : Nat) : Int), .int .i64 ((g 4 : Nat) : Int), .int .i64 ((g 5 : Nat) : Int)] 94)).alloc (.cells #[.int .i64 0, .int .i64 0, .int .i64 0, .int .i64 0, .int .i64 0, .int .i64 0] 94)).alloc (.cells #[.int .i64 0, .int .i64 0, .int .i64 0, .int .i64 0, .int .i64 0, .int .i64 0, .int .i64 0, .int .i64 0, .int .i64 0, .int .i64 0, .int .i64 0, .int .i64 0] 123)
  have SY := ((RowN.six (w.alloc (.cells #[.int .i64 ((f 0 : Nat) : Int), .int .i64 ((f 1 : Nat) : Int), .int .i64 ((f 2 : Nat) : Int), .int .i64 ((f 3 : Nat) : Int), .int .i64 ((f 4 : Nat) : Int), .int .i64 ((f 5 : Nat) : Int)] 94)) g 94).alloc (.cells #[.int .i64 0, .int .i64 0, .int .i64 0, .int .i64 0, .int .i64 0, .int .i64 0] 94)).alloc (.cells #[.int .i64 0, .int .i64 0, .int .i64 0, .int .i64 0, .int .i64 0, .int .i64 0, .int .i64 0, .int .i64 0, .int .i64 0, .int .i64 0, .int .i64 0, .int .i64 0] 123)
  have SZ := (RowN.zero ((w.alloc (.cells #[.int .i64 ((f 0 : Nat) : Int), .int .i64 ((f 1 : Nat) : Int), .int .i64 ((f 2 : Nat) : Int), .int .i64 ((f 3 : Nat) : Int), .int .i64 ((f 4 : Nat) : Int), .int .i64 ((f 5 : Nat) : Int)] 94)).alloc (.cells #[.int .i64 ((g 0 : Nat) : Int), .int .i64 ((g 1 : Nat) : Int), .int .i64 ((g 2 : Nat) : Int), .int .i64 ((g 3 : Nat) : Int), .int .i64 ((g 4 : Nat) : Int), .int .i64 ((g 5 : Nat) : Int)] 94)) 94).alloc (.cells #[.int .i64 0, .int .i64 0, .int .i64 0, .int .i64 0, .int .i64 0, .int .i64 0, .int .i64 0, .int .i64 0, .int .i64 0, .int .i64 0, .int .i64 0, .int .i64 0] 123)
  have SA := RowN.twelve (((w.alloc (.cells #[.int .i64 ((f 0 : Nat) : Int), .int .i64 ((f 1 : Nat) : Int), .int .i64 ((f 2 : Nat) : Int), .int .i64 ((f 3 : Nat) : Int), .int .i64 ((f 4 : Nat) : Int), .int .i64 ((f 5 : Nat) : Int)] 94)).alloc (.cells #[.int .i64 ((g 0 : Nat) : Int), .int .i64 ((g 1 : Nat) : Int), .int .i64 ((g 2 : Nat) : Int), .int .i64 ((g 3 : Nat) : Int), .int .i64 ((g 4 : Nat) : Int), .int .i64 ((g 5 : Nat) : Int)] 94)).alloc (.cells #[.int .i64 0, .int .i64 0, .int .i64 0, .int .i64 0, .int .i64 0, .int .i64 0] 94)) 123
  have HW := blw_alloc (blw_alloc (blw_alloc (alloc_below w (.cells #[.int .i64 ((f 0 : Nat) : Int), .int .i64 ((f 1 : Nat) : Int), .int .i64 ((f 2 : Nat) : Int), .int .i64 ((f 3 : Nat) : Int), .int .i64 ((f 4 : Nat) : Int), .int .i64 ((f 5 : Nat) : Int)] 94)) (.cells #[.int .i64 ((g 0 : Nat) : Int), .int .i64 ((g 1 : Nat) : Int), .int .i64 ((g 2 : Nat) : Int), .int .i64 ((g 3 : Nat) : Int), .int .i64 ((g 4 : Nat) : Int), .int .i64 ((g 5 : Nat) : Int)] 94)) (.cells #[.int .i64 0, .int .i64 0, .int .i64 0, .int .i64 0, .int .i64 0, .int .i64 0] 94)) (.cells #[.int .i64 0, .int .i64 0, .int .i64 0, .int .i64 0, .int .i64 0, .int .i64 0, .int .i64 0, .int .i64 0, .int .i64 0, .int .i64 0, .int .i64 0, .int .i64 0] 123)
  simp only [World.size_alloc] at SY SZ SA
  unfold longF
  have HB : Hid (Boxes f g (fun m => ((accT f g (6 * 0) m : Nat) : Int)) w _) := Lib.hid ⟨HW, SX, SY, SZ, SA⟩
  clear SX SY SZ SA HW
  go_enter Tryd.func95, Tryd.ntmps95
  go_wp2_with fail
  go_loopw [6] (fun i wr => OutRel f g w i wr) (fun i _ => 6 - (intOf i).toNat)
  case atStart => exact ⟨0, by omega, rfl, HB.out⟩
  case round =>
    clear HB
    obtain ⟨n, n6, rfl, hB⟩ := hrel
    by_cases hn : n < 6
    · have HB := Lib.hid hB
      clear hB
      go_wp2_with fail
      go_loopw [7] (fun k wr => InRel f g n w k wr) (fun k _ => 6 - (intOf k).toNat)
      case atStart => exact ⟨0, by omega, rfl, HB.out⟩
      case round =>
        clear HB
        obtain ⟨m, m6, rfl, hB⟩ := hrel
        by_cases hm : m < 6
        · have cx := hB.x.cell n (by omega)
          have cy := hB.y.cell m (by omega)
          have ca := hB.a.cell (n + m) (by omega)
          have fa := hB.a.free (n + m) (by omega)
          have room := accT_room f g hf hg f0 g0 n m (by omega) hm
          have pb : f n * g m ≤ 999999999 * 999999999 := Nat.mul_le_mul (low_at hf f0 n (by omega)) (low_at hg g0 m (by omega))
          have pe : ((f n * g m : Nat) : Int) = ((f n : Nat) : Int) * ((g m : Nat) : Int) := Int.natCast_mul _ _
          have p0 : 0 ≤ ((f n : Nat) : Int) * ((g m : Nat) : Int) := by rw [← pe]; omega
          have p1 : ((f n : Nat) : Int) * ((g m : Nat) : Int) ≤ 999999998000000001 := by rw [← pe]; omega
          have ST := Lib.hid (in_step f g w wr n m (by omega) hm hB)
          rw [pe] at ST
          clear hB hf hg pb pe
          generalize accT f g (6 * n + m) (n + m) = x at *
          generalize f n = y at *
          generalize g m = z at *
          go_wp2_with fail
          go_region
          all_goals (go_wp2_with fail)
          go_roundw
          case rel => exact in_drew (ST.out _ rfl)
          case measure => simp [intOf]; omega
        · obtain rfl : m = 6 := by omega
          have NX : Hid (OutRel f g w (.int .i64 ((n : Int) + 1)) wr) := Lib.hid ⟨n + 1, by omega, by go_num, by rw [show 6 * (n + 1) = 6 * n + 6 by omega]; exact hB⟩
          clear hB
          go_wp2_with fail
          go_roundw
          case rel => exact NX.out
          case measure => simp [intOf]; omega
    · obtain rfl : n = 6 := by omega
      have hA : ∀ m, accT f g 36 m ≤ 5999999988000000006 := fun m => accT_all f g hf hg f0 g0 5 6 (by omega) (by omega) m
      have hC := cT_bd (accT f g 36) hA
      have HB : Hid (CarRel f g (accT f g 36) w (.int .i64 11) wr) := Lib.hid ⟨11, Nat.le_refl _, rfl, ⟨hB.low, hB.x, hB.y, hB.z, hB.a.congr (g := midT (accT f g 36) 11) (fun i hi => by
        unfold midT
        rw [if_neg (by omega)]
        split
        · subst i; rfl
        · rfl)⟩⟩
      clear hB hf hg
      generalize hT : accT f g 36 = A at *
      go_wp2_with fail
      go_loopw [8] (fun i wr => CarRel f g A w i wr) (fun i _ => (intOf i).toNat)
      case atStart => exact HB.out
      case round =>
        clear HB
        obtain ⟨k, k11, rfl, hB⟩ := hrel
        by_cases h1 : 1 ≤ k
        · obtain ⟨m, rfl⟩ : ∃ m, k = m + 1 := ⟨k - 1, by omega⟩
          have c1 := hB.a.cell (m + 1) (by omega)
          have c2 := hB.a.cell m (by omega)
          have t1 := hB.a.free (m + 1) (by omega)
          have t2 := hB.a.free m (by omega)
          have l1 : midT A (m + 1) (m + 1) = ((A (m + 1) + cT A (11 - (m + 1)) : Nat) : Int) := (if_neg (Nat.lt_irrefl _)).trans (if_pos rfl)
          have l2 : midT A (m + 1) m = ((A m : Nat) : Int) := (if_neg (by omega)).trans (if_neg (by omega))
          rw [l1] at c1
          rw [l2] at c2
          have b1 := hA (m + 1)
          have b2 := hA m
          have b3 := hC (11 - (m + 1))
          have ST := Lib.hid (car_step f g A w wr m k11 hB)
          clear hB hA hC l1 l2
          generalize cT A (11 - (m + 1)) = c at *
          generalize hx : A (m + 1) = x at *
          generalize hy : A m = y at *
          generalize hv : x + c = v at *
          go_wp2_with fail
          go_region
          all_goals (go_wp2_with fail)
          go_roundw
          case rel => exact car_drew (ST.out _ _ _ rfl rfl rfl)
          case measure => simp [intOf]
        · obtain rfl : k = 0 := by omega
          have c0 := hB.a.cell 0 (by omega)
          have c1 := hB.a.cell 1 (by omega)
          have c2 := hB.a.cell 2 (by omega)
          have c3 := hB.a.cell 3 (by omega)
          have c4 := hB.a.cell 4 (by omega)
          have c5 := hB.a.cell 5 (by omega)
          rw [mid_end A _ (by omega)] at c0 c1 c2 c3 c4 c5
          have s0 := hB.z.cell 0 (by omega)
          have s1 := hB.z.cell 1 (by omega)
          have s2 := hB.z.cell 2 (by omega)
          have s3 := hB.z.cell 3 (by omega)
          have s4 := hB.z.cell 4 (by omega)
          have s5 := hB.z.cell 5 (by omega)
          have t0 := hB.z.free 0 (by omega)
          have t1 := hB.z.free 1 (by omega)
          have t2 := hB.z.free 2 (by omega)
          have t3 := hB.z.free 3 (by omega)
          have t4 := hB.z.free 4 (by omega)
          have t5 := hB.z.free 5 (by omega)
          have HB := Lib.hid hB
          clear hB hA hC
          go_wp2_with fail
          subst hT
          have SF := HB.out.z.six_set (fun j => ((sT (accT f g 36) j : Nat) : Int))
          have q0 := SF.cell 0 (by omega)
          have q1 := SF.cell 1 (by omega)
          have q2 := SF.cell 2 (by omega)
          have q3 := SF.cell 3 (by omega)
          have q4 := SF.cell 4 (by omega)
          have q5 := SF.cell 5 (by omega)
          refine bodyPost_ret (v := .agg #[.int .i64 ((sT (accT f g 36) 0 : Nat) : Int), .int .i64 ((sT (accT f g 36) 1 : Nat) : Int), .int .i64 ((sT (accT f g 36) 2 : Nat) : Int), .int .i64 ((sT (accT f g 36) 3 : Nat) : Int), .int .i64 ((sT (accT f g 36) 4 : Nat) : Int), .int .i64 ((sT (accT f g 36) 5 : Nat) : Int)])
            (by simp [results, Tryd.results95, go_sem, q0, q1, q2, q3, q4, q5]) rfl ⟨rfl, below_six HB.out.low (by omega) (fun j => ((sT (accT f g 36) j : Nat) : Int))⟩
end Go.Proofs.YtnjedigjabijcaaDoor
