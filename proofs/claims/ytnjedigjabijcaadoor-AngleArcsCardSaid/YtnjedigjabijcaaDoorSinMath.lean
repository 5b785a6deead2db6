import Derived.Test.YtnjedigjabijcaaDoorCirc4
import Derived.Test.YtnjedigjabijcaaDoorCirc5
namespace Go.Proofs.YtnjedigjabijcaaDoor

/-- n numbers in lanes of 224 bits. -/
def pack (f : Nat → Nat) : Nat → Nat
  | 0 => 0
  | n + 1 => pack f n + f n * 2 ^ (224 * n)
theorem pack_succ (f : Nat → Nat) (n : Nat) : pack f (n + 1) = pack f n + f n * 2 ^ (224 * n) := rfl
theorem pack_congr {f g : Nat → Nat} : ∀ n, (∀ i, i < n → f i = g i) → pack f n = pack g n
  | 0, _ => rfl
  | n + 1, h => by rw [pack_succ, pack_succ, pack_congr n (fun i hi => h i (by omega)), h n (by omega)]
theorem pack_add (f g : Nat → Nat) (n : Nat) : pack f n + pack g n = pack (fun i => f i + g i) n := by
  induction n with
  | zero => rfl
  | succ n ih => rw [pack_succ, pack_succ, pack_succ, ← ih, Nat.add_mul]; omega
theorem pack_mul (f : Nat → Nat) (c n : Nat) : pack f n * c = pack (fun i => f i * c) n := by
  induction n with
  | zero => simp [pack]
  | succ n ih => rw [pack_succ, pack_succ, ← ih, Nat.add_mul, Nat.mul_right_comm]
theorem pack_sub {f g : Nat → Nat} (n : Nat) (h : ∀ i, i < n → g i ≤ f i) : pack f n - pack g n = pack (fun i => f i - g i) n := by
  have e := pack_add (fun i => f i - g i) g n
  rw [pack_congr n (g := f) (fun i hi => Nat.sub_add_cancel (h i hi))] at e
  omega
theorem pack_lt (f : Nat → Nat) : ∀ n, (∀ i, i < n → f i < 2 ^ 224) → pack f n < 2 ^ (224 * n)
  | 0, _ => by simp [pack]
  | n + 1, h => by
    have a := pack_lt f n (fun i hi => h i (by omega))
    have b := h n (by omega)
    have e : 2 ^ (224 * (n + 1)) = 2 ^ 224 * 2 ^ (224 * n) := by rw [Nat.mul_succ, Nat.pow_add, Nat.mul_comm]
    have c := Nat.mul_le_mul_right (2 ^ (224 * n)) (show f n + 1 ≤ 2 ^ 224 from b)
    rw [Nat.add_mul, Nat.one_mul] at c
    rw [pack_succ, e]
    omega
theorem and_lanes (x y x' y' k : Nat) (hx : x < 2 ^ k) (hx' : x' < 2 ^ k) : (x + y * 2 ^ k) &&& (x' + y' * 2 ^ k) = (x &&& x') + (y &&& y') * 2 ^ k := by
  apply Nat.eq_of_testBit_eq
  intro i
  have hand : (x &&& x') < 2 ^ k := Nat.lt_of_le_of_lt Nat.and_le_left hx
  rw [Nat.testBit_and, Nat.add_comm x, Nat.add_comm x', Nat.add_comm (x &&& x'), Nat.mul_comm y, Nat.mul_comm y', Nat.mul_comm (y &&& y')]
  rw [Nat.testBit_two_pow_mul_add _ hx, Nat.testBit_two_pow_mul_add _ hx', Nat.testBit_two_pow_mul_add _ hand]
  split
  · rw [Nat.testBit_and]
  · rw [Nat.testBit_and]
theorem pack_and (f g : Nat → Nat) : ∀ n, (∀ i, i < n → f i < 2 ^ 224) → (∀ i, i < n → g i < 2 ^ 224) → pack f n &&& pack g n = pack (fun i => f i &&& g i) n
  | 0, _, _ => by simp [pack]
  | n + 1, hf, hg => by
    rw [pack_succ, pack_succ, pack_succ, and_lanes _ _ _ _ _ (pack_lt f n (fun i hi => hf i (by omega))) (pack_lt g n (fun i hi => hg i (by omega))), pack_and f g n (fun i hi => hf i (by omega)) (fun i hi => hg i (by omega))]
theorem pack_inj {f g : Nat → Nat} : ∀ n, (∀ i, i < n → f i < 2 ^ 224) → (∀ i, i < n → g i < 2 ^ 224) → pack f n = pack g n → ∀ i, i < n → f i = g i
  | 0, _, _, _, i, hi => by omega
  | n + 1, hf, hg, h, i, hi => by
    rw [pack_succ, pack_succ] at h
    have a := pack_lt f n (fun i hi => hf i (by omega))
    have b := pack_lt g n (fun i hi => hg i (by omega))
    have e1 : (pack f n + f n * 2 ^ (224 * n)) / 2 ^ (224 * n) = f n := by rw [Nat.add_mul_div_right _ _ (Nat.two_pow_pos _), Nat.div_eq_of_lt a]; omega
    have e2 : (pack g n + g n * 2 ^ (224 * n)) / 2 ^ (224 * n) = g n := by rw [Nat.add_mul_div_right _ _ (Nat.two_pow_pos _), Nat.div_eq_of_lt b]; omega
    have e3 : f n = g n := by rw [← e1, h, e2]
    rw [e3] at h
    rcases Nat.lt_or_ge i n with hin | hin
    · exact pack_inj n (fun i hi => hf i (by omega)) (fun i hi => hg i (by omega)) (by omega) i hin
    · obtain rfl : i = n := by omega
      exact e3
theorem pack_app (f : Nat → Nat) (m n : Nat) : pack f (m + n) = pack f m + pack (fun i => f (m + i)) n * 2 ^ (224 * m) := by
  induction n with
  | zero => simp [pack]
  | succ n ih =>
    rw [← Nat.add_assoc, pack_succ, ih, pack_succ, Nat.add_mul, Nat.mul_assoc, ← Nat.pow_add, ← Nat.mul_add, Nat.add_comm n m]
    omega
/-- A 1 in each lane. -/
def onesN (n : Nat) : Nat := (2 ^ (224 * n) - 1) / (2 ^ 224 - 1)
theorem ones_pack (n : Nat) : onesN n = pack (fun _ => 1) n := by
  have e : pack (fun _ => 1) n * (2 ^ 224 - 1) = 2 ^ (224 * n) - 1 := by
    induction n with
    | zero => rfl
    | succ n ih =>
      have e2 : 2 ^ (224 * (n + 1)) = 2 ^ (224 * n) * 2 ^ 224 := by rw [Nat.mul_succ, Nat.pow_add]
      have p := Nat.two_pow_pos (224 * n)
      rw [pack_succ, Nat.add_mul, ih, Nat.one_mul, e2]
      omega
  unfold onesN
  rw [← e, Nat.mul_div_cancel _ (by decide)]
/-- The quotients by 2 ^ 96, lane by lane. -/
theorem and_high (x : Nat) (hx : x < 2 ^ 224) : x &&& (2 ^ 224 - 2 ^ 96) = x / 2 ^ 96 * 2 ^ 96 := by
  have a := and_lanes (x % 2 ^ 96) (x / 2 ^ 96) 0 (2 ^ 128 - 1) 96 (Nat.mod_lt _ (by decide)) (by decide)
  rw [Nat.and_zero, Nat.zero_add, Nat.zero_add, Nat.and_two_pow_sub_one_eq_mod, show (2 ^ 128 - 1) * 2 ^ 96 = 2 ^ 224 - 2 ^ 96 by decide, show x % 2 ^ 96 + x / 2 ^ 96 * 2 ^ 96 = x by omega] at a
  rw [a]
  omega
/-- All lanes' quotients by 2 ^ 96. -/
theorem pack_quot (f : Nat → Nat) (n : Nat) (h : ∀ i, i < n → f i < 2 ^ 224) : (pack f n &&& ((2 ^ 224 - 2 ^ 96) * onesN n)) / 2 ^ 96 = pack (fun i => f i / 2 ^ 96) n := by
  rw [ones_pack, Nat.mul_comm (2 ^ 224 - 2 ^ 96), pack_mul, pack_and f _ n h (fun i _ => by show 1 * (2 ^ 224 - 2 ^ 96) < 2 ^ 224; decide)]
  rw [pack_congr n (g := fun i => f i / 2 ^ 96 * 2 ^ 96) (fun i hi => by show f i &&& (1 * (2 ^ 224 - 2 ^ 96)) = _; rw [Nat.one_mul]; exact and_high (f i) (h i hi)), ← pack_mul, Nat.mul_div_cancel _ (by decide)]
/-- One number is not near a multiple of 2 ^ 192. -/
def far (v : Nat) : Prop := 2 ^ 162 ≤ v % 2 ^ 192 ∧ v % 2 ^ 192 < 2 ^ 192 - 2 ^ 162
/-- The test of all lanes at once. -/
def testN (n V : Nat) : Bool := Nat.beq ((((V + 2 ^ 162 * onesN n) &&& ((2 ^ 192 - 2 ^ 163) * onesN n)) + (2 ^ 192 - 2 ^ 163) * onesN n) &&& (2 ^ 192 * onesN n)) (2 ^ 192 * onesN n)
theorem and_mid (x : Nat) : x &&& (2 ^ 192 - 2 ^ 163) = x % 2 ^ 192 / 2 ^ 163 * 2 ^ 163 := by
  have a := and_lanes (x % 2 ^ 163) (x / 2 ^ 163) 0 (2 ^ 29 - 1) 163 (Nat.mod_lt _ (by decide)) (by decide)
  rw [Nat.and_zero, Nat.zero_add, Nat.zero_add, Nat.and_two_pow_sub_one_eq_mod, show (2 ^ 29 - 1) * 2 ^ 163 = 2 ^ 192 - 2 ^ 163 by decide, show x % 2 ^ 163 + x / 2 ^ 163 * 2 ^ 163 = x by omega] at a
  rw [a]
  omega
theorem and_top (x : Nat) (h : x < 2 ^ 193) : x &&& 2 ^ 192 = x / 2 ^ 192 * 2 ^ 192 := by
  have a := and_lanes (x % 2 ^ 192) (x / 2 ^ 192) 0 1 192 (Nat.mod_lt _ (by decide)) (by decide)
  rw [Nat.and_zero, Nat.zero_add, Nat.zero_add, Nat.one_mul, show x % 2 ^ 192 + x / 2 ^ 192 * 2 ^ 192 = x by omega] at a
  rw [a]
  have : x / 2 ^ 192 = 0 ∨ x / 2 ^ 192 = 1 := by omega
  rcases this with h | h <;> rw [h] <;> rfl
theorem test_far (f : Nat → Nat) (n : Nat) (h : ∀ i, i < n → f i < 2 ^ 222) (ht : testN n (pack f n) = true) : ∀ i, i < n → far (f i) := by
  intro i hi
  unfold testN at ht
  have ht := Nat.eq_of_beq_eq_true ht
  rw [ones_pack, Nat.mul_comm (2 ^ 162), Nat.mul_comm (2 ^ 192 - 2 ^ 163), Nat.mul_comm (2 ^ 192), pack_mul, pack_mul, pack_mul, pack_add] at ht
  rw [pack_and _ _ n (fun j hj => by have := h j hj; show f j + 1 * 2 ^ 162 < 2 ^ 224; omega) (fun j _ => by show 1 * (2 ^ 192 - 2 ^ 163) < 2 ^ 224; decide), pack_add] at ht
  have b : ∀ j, (f j + 1 * 2 ^ 162) &&& (1 * (2 ^ 192 - 2 ^ 163)) = (f j + 2 ^ 162) % 2 ^ 192 / 2 ^ 163 * 2 ^ 163 := fun j => by rw [Nat.one_mul, Nat.one_mul, and_mid]
  rw [pack_and _ _ n (fun j hj => by show ((f j + 1 * 2 ^ 162) &&& (1 * (2 ^ 192 - 2 ^ 163))) + 1 * (2 ^ 192 - 2 ^ 163) < 2 ^ 224; rw [b]; omega) (fun j _ => by show 1 * 2 ^ 192 < 2 ^ 224; decide)] at ht
  have e := pack_inj n (fun j hj => by
      show (((f j + 1 * 2 ^ 162) &&& (1 * (2 ^ 192 - 2 ^ 163))) + 1 * (2 ^ 192 - 2 ^ 163)) &&& (1 * 2 ^ 192) < 2 ^ 224
      exact Nat.lt_of_le_of_lt Nat.and_le_right (by decide)) (fun j _ => by show 1 * 2 ^ 192 < 2 ^ 224; decide) ht i hi
  simp only [b, Nat.one_mul] at e
  rw [and_top _ (by omega)] at e
  unfold far
  omega
end Go.Proofs.YtnjedigjabijcaaDoor

namespace Go.Proofs.YtnjedigjabijcaaDoor

def uu : Rat := 1 / 79228162514264337593543950336
theorem uu_pos : 0 < uu := by decide +kernel
theorem uu_whole : rho 79228162514264337593543950336 * uu = 1 := by rw [rho_cast]; decide +kernel
theorem uu_small : uu * 10 ^ 28 ≤ 1 := by decide +kernel
theorem quot_near (n : Nat) : rho (n / 79228162514264337593543950336) * uu ≤ rho n * uu * uu ∧ rho n * uu * uu ≤ rho (n / 79228162514264337593543950336) * uu + uu := by
  obtain ⟨d1, d2⟩ := rho_div n 79228162514264337593543950336 (by omega)
  have e0 := uu_pos
  have hW := uu_whole
  generalize rho (n / 79228162514264337593543950336) = N at *
  generalize rho 79228162514264337593543950336 = W at *
  generalize rho n = F at *
  have q := Rat.mul_nonneg (show 0 ≤ uu by grind) (show 0 ≤ uu by grind)
  generalize uu = e at *
  have k1 := Rat.mul_nonneg (show 0 ≤ F - N * W by grind) q
  have k2 := Rat.mul_nonneg (show 0 ≤ (N + 1) * W - F by grind) q
  have g1 : N * W * (e * e) = N * e * (W * e) := by grind
  have g2 : (N + 1) * W * (e * e) = (N + 1) * e * (W * e) := by grind
  rw [hW] at g1 g2
  constructor <;> grind
theorem sum_top {x y : Rat} (h : x * x + y * y ≤ 11 / 10) : x + y ≤ 3 / 2 := by
  by_cases q : x + y ≤ 3 / 2
  · exact q
  · have := Rat.mul_pos (show 0 < x + y - 3 / 2 by grind) (show 0 < x + y + 3 / 2 by grind)
    have k := sq_nonneg (x - y)
    grind
/-- Both numbers of a direction together. -/
def Slim (c s : Rat) : Prop := c + s ≤ 3 / 2 ∧ c - s ≤ 3 / 2 ∧ -c + s ≤ 3 / 2 ∧ -c - s ≤ 3 / 2
theorem slim_of {x y : Rat} (h : x * x + y * y ≤ 11 / 10) : Slim x y := by
  have a := sum_top h
  have b := sum_top (x := x) (y := -y) (by grind)
  have c := sum_top (x := -x) (y := y) (by grind)
  have d := sum_top (x := -x) (y := -y) (by grind)
  unfold Slim
  refine ⟨?_, ?_, ?_, ?_⟩ <;> grind
theorem slim_z {h : Rat} {M : Nat} (R : Rot h M) (a : Nat) (ha : a ≤ 8000000000) : Slim (zc h M a) (zs h M a) := by
  obtain ⟨n1, n2⟩ := norm_near R a ha
  exact slim_of (by grind)
theorem mix {c s d1 d2 D : Rat} (hs : Slim c s) (a1 : -D ≤ d1) (a2 : d1 ≤ D) (b1 : -D ≤ d2) (b2 : d2 ≤ D) :
    -(3 / 2 * D) ≤ d1 * c + d2 * s ∧ d1 * c + d2 * s ≤ 3 / 2 * D := by
  obtain ⟨s1, s2, s3, s4⟩ := hs
  have D0 : 0 ≤ D := by grind
  have w1 := Rat.mul_nonneg D0 (show 0 ≤ 3 / 2 - (c + s) by grind)
  have w2 := Rat.mul_nonneg D0 (show 0 ≤ 3 / 2 - (c - s) by grind)
  have w3 := Rat.mul_nonneg D0 (show 0 ≤ 3 / 2 - (-c + s) by grind)
  have w4 := Rat.mul_nonneg D0 (show 0 ≤ 3 / 2 - (-c - s) by grind)
  by_cases hc : 0 ≤ c
  · have k1 := Rat.mul_nonneg (show 0 ≤ D - d1 by grind) hc
    have k2 := Rat.mul_nonneg (show 0 ≤ D + d1 by grind) hc
    by_cases hs : 0 ≤ s
    · have k3 := Rat.mul_nonneg (show 0 ≤ D - d2 by grind) hs
      have k4 := Rat.mul_nonneg (show 0 ≤ D + d2 by grind) hs
      constructor <;> grind
    · have k3 := Rat.mul_nonneg (show 0 ≤ D - d2 by grind) (show 0 ≤ -s by grind)
      have k4 := Rat.mul_nonneg (show 0 ≤ D + d2 by grind) (show 0 ≤ -s by grind)
      constructor <;> grind
  · have k1 := Rat.mul_nonneg (show 0 ≤ D - d1 by grind) (show 0 ≤ -c by grind)
    have k2 := Rat.mul_nonneg (show 0 ≤ D + d1 by grind) (show 0 ≤ -c by grind)
    by_cases hs : 0 ≤ s
    · have k3 := Rat.mul_nonneg (show 0 ≤ D - d2 by grind) hs
      have k4 := Rat.mul_nonneg (show 0 ≤ D + d2 by grind) hs
      constructor <;> grind
    · have k3 := Rat.mul_nonneg (show 0 ≤ D - d2 by grind) (show 0 ≤ -s by grind)
      have k4 := Rat.mul_nonneg (show 0 ≤ D + d2 by grind) (show 0 ≤ -s by grind)
      constructor <;> grind
/-- A cosine and a sine in fixed point. -/
def Fits (h : Rat) (M : Nat) (E : Rat) (p : Nat × Nat) (a : Nat) : Prop := Next E (rho p.1 * uu) (zc h M a) ∧ Next E (rho p.2 * uu) (zs h M a)
theorem Fits.mono {h : Rat} {M : Nat} {E F : Rat} {p : Nat × Nat} {a : Nat} (f : Fits h M E p a) (he : E ≤ F) : Fits h M F p a := ⟨next_mono f.1 he, next_mono f.2 he⟩
/-- What two rotations make, in numbers. -/
theorem turn_near2 {c s c' s' x y z t D E : Rat} (h1 : Slim c s) (h2 : Slim c' s') (D1 : D ≤ 1) (x1 : Next D x c) (y1 : Next D y s) (z1 : Next E z c') (t1 : Next E t s') :
    Next (3 / 2 * D + 7 / 2 * E) (x * z - y * t) (c * c' - s * s') ∧ Next (3 / 2 * D + 7 / 2 * E) (x * t + y * z) (c * s' + s * c') := by
  unfold Next at x1 y1 z1 t1
  generalize hd1 : x - c = d1 at *
  generalize hd2 : y - s = d2 at *
  generalize he1 : z - c' = e1 at *
  generalize he2 : t - s' = e2 at *
  obtain rfl : x = c + d1 := by grind
  obtain rfl : y = s + d2 := by grind
  obtain rfl : z = c' + e1 := by grind
  obtain rfl : t = s' + e2 := by grind
  have E0 : 0 ≤ E := by grind
  have D0 : 0 ≤ D := by grind
  have m1 := mix (d1 := d1) (d2 := -d2) (D := D) h2 (by grind) (by grind) (by grind) (by grind)
  have m2 := mix (d1 := e1) (d2 := -e2) (D := E) h1 (by grind) (by grind) (by grind) (by grind)
  have m3 := mix (c := c') (s := s') (d1 := d2) (d2 := d1) (D := D) h2 (by grind) (by grind) (by grind) (by grind)
  have m4 := mix (c := c) (s := s) (d1 := e2) (d2 := e1) (D := E) h1 (by grind) (by grind) (by grind) (by grind)
  have q := Rat.mul_nonneg (show 0 ≤ 1 - D by grind) E0
  have b1 := bil (a := d1) (b := e1) (A := D) (B := E) (by grind) (by grind) (by grind) (by grind)
  have b2 := bil (a := d2) (b := e2) (A := D) (B := E) (by grind) (by grind) (by grind) (by grind)
  have b3 := bil (a := d1) (b := e2) (A := D) (B := E) (by grind) (by grind) (by grind) (by grind)
  have b4 := bil (a := d2) (b := e1) (A := D) (B := E) (by grind) (by grind) (by grind) (by grind)
  unfold Next
  refine ⟨⟨?_, ?_⟩, ?_, ?_⟩ <;> grind
def rotP (p q : Nat × Nat) : Nat × Nat := ((p.1 * q.1 - p.2 * q.2) / 79228162514264337593543950336, (p.1 * q.2 + p.2 * q.1) / 79228162514264337593543950336)
theorem rot_near {h : Rat} {M : Nat} (R : Rot h M) {p q : Nat × Nat} {a b : Nat} {D E : Rat} (hp : Fits h M D p a) (hq : Fits h M E q b) (D1 : D ≤ 1) (ha : a ≤ 8000000000) (hb : b ≤ 8000000000)
    (hle : p.2 * q.2 ≤ p.1 * q.1) : Fits h M (3 / 2 * D + 7 / 2 * E + uu) (rotP p q) (a + b) := by
  obtain ⟨e1, e2⟩ := z_add h M a b
  obtain ⟨t1, t2⟩ := turn_near2 (slim_z R a ha) (slim_z R b hb) D1 hp.1 hp.2 hq.1 hq.2
  obtain ⟨q1, q2⟩ := quot_near (p.1 * q.1 - p.2 * q.2)
  obtain ⟨q3, q4⟩ := quot_near (p.1 * q.2 + p.2 * q.1)
  have e0 := uu_pos
  rw [rho_sub hle, rho_mul, rho_mul] at q1 q2
  rw [rho_add, rho_mul, rho_mul] at q3 q4
  unfold Fits rotP
  rw [e1, e2]
  simp only
  generalize rho ((p.1 * q.1 - p.2 * q.2) / 79228162514264337593543950336) = A at *
  generalize rho ((p.1 * q.2 + p.2 * q.1) / 79228162514264337593543950336) = B at *
  generalize rho p.1 = x at *
  generalize rho p.2 = y at *
  generalize rho q.1 = z at *
  generalize rho q.2 = t at *
  unfold Next at *
  generalize uu = e at *
  refine ⟨⟨?_, ?_⟩, ?_, ?_⟩ <;> grind
theorem rho_top {n : Nat} (h : rho n * uu ≤ 3 / 2) : n < 158456325028528675187087900672 := by
  rcases Nat.lt_or_ge n 158456325028528675187087900672 with q | q
  · exact q
  · exfalso
    have k := rho_le q
    have e : rho 158456325028528675187087900672 * uu = 2 := by rw [rho_cast]; decide +kernel
    have m := Rat.mul_nonneg (show 0 ≤ rho n - rho 158456325028528675187087900672 by grind) (show 0 ≤ uu by have := uu_pos; grind)
    generalize rho 158456325028528675187087900672 = W at *
    grind
theorem fits_lt {h : Rat} {M : Nat} (R : Rot h M) {p : Nat × Nat} {a : Nat} {D : Rat} (hp : Fits h M D p a) (D1 : D ≤ 1 / 100) (ha : a ≤ 8000000000) : p.1 < 158456325028528675187087900672 ∧ p.2 < 158456325028528675187087900672 := by
  obtain ⟨t1, t2, t3, t4⟩ := z_top R a ha
  obtain ⟨⟨_, u1⟩, _, u2⟩ := hp
  exact ⟨rho_top (by grind), rho_top (by grind)⟩
end Go.Proofs.YtnjedigjabijcaaDoor

namespace Go.Proofs.YtnjedigjabijcaaDoor

theorem pack_mod (f : Nat → Nat) (m n : Nat) (hm : m ≤ n) (h : ∀ i, i < n → f i < 2 ^ 224) : pack f n % 2 ^ (224 * m) = pack f m := by
  obtain ⟨k, rfl⟩ := Nat.exists_eq_add_of_le hm
  rw [pack_app, Nat.add_mul_mod_self_right, Nat.mod_eq_of_lt (pack_lt f m (fun i hi => h i (by omega)))]
/-- Each lane of the first is no less than that of the second. -/
def geN (n X Y : Nat) : Bool := Nat.beq (((X + 2 ^ 223 * onesN n) - Y) &&& (2 ^ 223 * onesN n)) (2 ^ 223 * onesN n)
theorem and_223 (x : Nat) (h : x < 2 ^ 224) : x &&& 2 ^ 223 = x / 2 ^ 223 * 2 ^ 223 := by
  have a := and_lanes (x % 2 ^ 223) (x / 2 ^ 223) 0 1 223 (Nat.mod_lt _ (by decide)) (by decide)
  rw [Nat.and_zero, Nat.zero_add, Nat.zero_add, Nat.one_mul, show x % 2 ^ 223 + x / 2 ^ 223 * 2 ^ 223 = x by omega] at a
  rw [a]
  have : x / 2 ^ 223 = 0 ∨ x / 2 ^ 223 = 1 := by omega
  rcases this with h | h <;> rw [h] <;> rfl
theorem ge_lanes (f g : Nat → Nat) (n : Nat) (hf : ∀ i, i < n → f i < 2 ^ 223) (hg : ∀ i, i < n → g i < 2 ^ 223) (ht : geN n (pack f n) (pack g n) = true) : ∀ i, i < n → g i ≤ f i := by
  intro i hi
  unfold geN at ht
  have ht := Nat.eq_of_beq_eq_true ht
  rw [ones_pack, Nat.mul_comm (2 ^ 223), pack_mul, pack_add, pack_sub n (fun j hj => by have := hg j hj; show g j ≤ f j + 1 * 2 ^ 223; omega)] at ht
  rw [pack_and _ _ n (fun j hj => by have := hf j hj; have := hg j hj; show f j + 1 * 2 ^ 223 - g j < 2 ^ 224; omega) (fun j _ => by show 1 * 2 ^ 223 < 2 ^ 224; decide)] at ht
  have e := pack_inj n (fun j hj => Nat.lt_of_le_of_lt Nat.and_le_right (by show 1 * 2 ^ 223 < 2 ^ 224; decide)) (fun j _ => by show 1 * 2 ^ 223 < 2 ^ 224; decide) ht i hi
  have a := hf i hi
  have b := hg i hi
  simp only [Nat.one_mul] at e
  rw [and_223 _ (by omega)] at e
  omega
/-- So many lanes with the sines and the cosines of the multiples of 1500. -/
def Lanes (h : Rat) (M : Nat) (D : Rat) (n S C : Nat) : Prop :=
  ∃ f g : Nat → Nat, S = pack f n ∧ C = pack g n ∧ ∀ i, i < n → Fits h M D (g i, f i) (1500 * i)
def part (n m X : Nat) : Nat := (X &&& ((2 ^ 224 - 2 ^ 96) * onesN m)) / 2 ^ 96 * 2 ^ (224 * n)
def grS (n m c s S C : Nat) : Nat := S + part n m (C % 2 ^ (224 * m) * s + S % 2 ^ (224 * m) * c)
def grC (n m c s S C : Nat) : Nat := C + part n m (C % 2 ^ (224 * m) * c - S % 2 ^ (224 * m) * s)
theorem grow {h : Rat} {M : Nat} (R : Rot h M) {n m S C c s : Nat} {D E : Rat} (L : Lanes h M D n S C) (hq : Fits h M E (c, s) (1500 * n)) (h0 : 0 < n) (hm : m ≤ n) (hn : n ≤ 60000)
    (D1 : D ≤ 1 / 100) (E1 : E ≤ 1 / 100) (hge : geN m (C % 2 ^ (224 * m) * c) (S % 2 ^ (224 * m) * s) = true) : Lanes h M (3 / 2 * D + 7 / 2 * E + uu) (n + m) (grS n m c s S C) (grC n m c s S C) := by
  obtain ⟨f, g, rfl, rfl, hL⟩ := L
  obtain ⟨c1, s1⟩ := fits_lt R hq E1 (by omega)
  simp only at c1 s1
  have hl : ∀ i, i < n → g i < 158456325028528675187087900672 ∧ f i < 158456325028528675187087900672 := fun i hi => fits_lt R (hL i hi) D1 (by omega)
  have big : ∀ x y : Nat, x < 158456325028528675187087900672 → y < 158456325028528675187087900672 → x * y < 2 ^ 194 := by
    intro x y hx hy
    calc x * y < 158456325028528675187087900672 * 158456325028528675187087900672 := Nat.mul_lt_mul'' hx hy
      _ = 2 ^ 194 := by decide
  have b1 : ∀ i, i < m → g i * c < 2 ^ 194 := fun i hi => big _ _ (hl i (by omega)).1 c1
  have b2 : ∀ i, i < m → f i * s < 2 ^ 194 := fun i hi => big _ _ (hl i (by omega)).2 s1
  have b3 : ∀ i, i < m → g i * s < 2 ^ 194 := fun i hi => big _ _ (hl i (by omega)).1 s1
  have b4 : ∀ i, i < m → f i * c < 2 ^ 194 := fun i hi => big _ _ (hl i (by omega)).2 c1
  have mf : pack f n % 2 ^ (224 * m) = pack f m := pack_mod f m n hm (fun i hi => by have := (hl i hi).2; omega)
  have mg : pack g n % 2 ^ (224 * m) = pack g m := pack_mod g m n hm (fun i hi => by have := (hl i hi).1; omega)
  rw [mf, mg, pack_mul, pack_mul] at hge
  have hle := ge_lanes _ _ m (fun i hi => Nat.lt_trans (b1 i hi) (by decide)) (fun i hi => Nat.lt_trans (b2 i hi) (by decide)) hge
  have pS : grS n m c s (pack f n) (pack g n) = pack f n + pack (fun i => (g i * s + f i * c) / 2 ^ 96) m * 2 ^ (224 * n) := by
    unfold grS part
    rw [mf, mg, pack_mul, pack_mul, pack_add, pack_quot _ m (fun i hi => by have := b3 i hi; have := b4 i hi; show g i * s + f i * c < 2 ^ 224; omega)]
  have pC : grC n m c s (pack f n) (pack g n) = pack g n + pack (fun i => (g i * c - f i * s) / 2 ^ 96) m * 2 ^ (224 * n) := by
    unfold grC part
    rw [mf, mg, pack_mul, pack_mul, pack_sub m hle, pack_quot _ m (fun i hi => by have := b1 i hi; show g i * c - f i * s < 2 ^ 224; omega)]
  have D0 : 0 ≤ D := by obtain ⟨⟨x, y⟩, _⟩ := hL 0 h0; grind
  have E0 : 0 ≤ E := by obtain ⟨⟨x, y⟩, _⟩ := hq; grind
  have e0 := uu_pos
  refine ⟨fun i => if i < n then f i else (g (i - n) * s + f (i - n) * c) / 2 ^ 96, fun i => if i < n then g i else (g (i - n) * c - f (i - n) * s) / 2 ^ 96, ?_, ?_, ?_⟩
  · rw [pS, pack_app]
    congr 1
    · exact pack_congr n (fun i hi => by rw [if_pos hi])
    · congr 1
      exact pack_congr m (fun i hi => by rw [if_neg (by omega), Nat.add_sub_cancel_left])
  · rw [pC, pack_app]
    congr 1
    · exact pack_congr n (fun i hi => by rw [if_pos hi])
    · congr 1
      exact pack_congr m (fun i hi => by rw [if_neg (by omega), Nat.add_sub_cancel_left])
  · intro i hi
    simp only
    by_cases hin : i < n
    · rw [if_pos hin, if_pos hin]
      exact (hL i hin).mono (by grind)
    · rw [if_neg hin, if_neg hin]
      have r := rot_near R (hL (i - n) (by omega)) hq (by grind) (by omega) (by omega) (hle (i - n) (by omega))
      rw [show 1500 * (i - n) + 1500 * n = 1500 * i by omega] at r
      unfold rotP at r
      simp only at r
      rw [show g (i - n) * s + f (i - n) * c = g (i - n) * s + f (i - n) * c from rfl]
      exact r
theorem lanes_one (h : Rat) (M : Nat) : Lanes h M 0 1 0 79228162514264337593543950336 := by
  refine ⟨fun _ => 0, fun _ => 79228162514264337593543950336, by rw [pack_succ]; rfl, by rw [pack_succ]; rfl, fun i hi => ?_⟩
  obtain rfl : i = 0 := by omega
  obtain ⟨z1, z2⟩ := z_zero h M
  unfold Fits Next
  rw [Nat.mul_zero, z1, z2]
  simp only
  have hW := uu_whole
  rw [rho_zero]
  refine ⟨⟨?_, ?_⟩, ?_, ?_⟩ <;> grind
end Go.Proofs.YtnjedigjabijcaaDoor

namespace Go.Proofs.YtnjedigjabijcaaDoor

theorem tail31 : tt 0 (4 / 5) 32 ≤ 1 / 10 ^ 37 := tail32
theorem low31 {h : Rat} {M : Nat} (R : Rot h M) (a : Nat) (ha : a ≤ 45000000) :
    -(1 / 10 ^ 35) ≤ zc h M a - (pp 0 (rho a * dd) 31).1 ∧ zc h M a - (pp 0 (rho a * dd) 31).1 ≤ 1 / 10 ^ 35 ∧ -(1 / 10 ^ 35) ≤ zs h M a - (pp 0 (rho a * dd) 31).2 ∧ zs h M a - (pp 0 (rho a * dd) 31).2 ≤ 1 / 10 ^ 35 := by
  have x := x_45 a ha
  have d := dd_45
  have w := ww_45 R a ha
  have t := uu_mono (rho a * dd) (4 / 5) (by grind) (by grind) 32
  have t0 := uu_nonneg (rho a * dd) (by grind) 32
  have t2 := tail32
  have s := R.small
  have n := near_poly h R.pos 31 (a * M) (by rw [rot_x R]; grind) (1 / 10 ^ 35) (by
    rw [rot_x R, show rho 31 = 31 by rw [rho_cast]; rfl]
    have k := Rat.mul_nonneg (show 0 ≤ 5 - ww h (a * M) by grind) t0
    show ww h (a * M) * tt 0 (rho a * dd) 32 + _ ≤ _
    grind)
  rw [rot_x R] at n
  exact n
def polyB (a : Nat) (p : Nat × Nat) : Bool :=
  let z := pp 0 (rho a * dd) 31
  decide (-(3 / 2 * uu) ≤ rho p.1 * uu - z.1 ∧ rho p.1 * uu - z.1 ≤ 3 / 2 * uu ∧ -(3 / 2 * uu) ≤ rho p.2 * uu - z.2 ∧ rho p.2 * uu - z.2 ≤ 3 / 2 * uu)
theorem fits_poly {h : Rat} {M : Nat} (R : Rot h M) (a : Nat) (ha : a ≤ 45000000) (p : Nat × Nat) (hp : polyB a p = true) : Fits h M (2 * uu) p a := by
  obtain ⟨l1, l2, l3, l4⟩ := low31 R a ha
  obtain ⟨p1, p2, p3, p4⟩ := of_decide_eq_true hp
  have q : 10 ^ 34 * uu ≥ 1 := by decide +kernel
  unfold Fits Next
  generalize (pp 0 (rho a * dd) 31).1 = z1 at *
  generalize (pp 0 (rho a * dd) 31).2 = z2 at *
  generalize rho p.1 * uu = x at *
  generalize rho p.2 * uu = y at *
  generalize uu = e at *
  refine ⟨⟨?_, ?_⟩, ?_, ?_⟩ <;> grind
def lq0 : Nat × Nat := (79228162487113274350615320409, 2074188444031654652412446)
def lq1 : Nat × Nat := (79228162405660084640438475995, 4148376886641682957968346)
def lq2 : Nat × Nat := (79228162079847326078866778717, 8296753761910355146930526)
def lq3 : Nat × Nat := (79228160776596296298750869231, 16593507432836624328890249)
def lq4 : Nat × Nat := (79228155563592248637020893936, 33187014137800566924526962)
def lq5 : Nat × Nat := (79228134711577201329813265083, 66374022452619871551434812)
def lq6 : Nat × Nat := (79228051303535305534693983186, 132747998321395774910607174)
def lq7 : Nat × Nat := (79227717671660417185748698924, 265495623972235970269580067)
def lq8 : Nat × Nat := (79226383148843974192217419883, 530988266586304609084490563)
def lq9 : Nat × Nat := (79221045132507526910885134998, 1061952682508143479316523043)
def lq10 : Nat × Nat := (79199694266002661666534800955, 2123714566128385984848110370)
def lq11 : Nat × Nat := (79114309979628718264792275884, 4245902946830103889194601409)
def lq12 : Nat × Nat := (78773079592691977972033311551, 8479602990122556771818509857)
def lq13 : Nat × Nat := (77413058778717024366080062363, 16861793081092645520616639862)
def lq14 : Nat × Nat := (72050915008154512793599581657, 32950984535736948863789666530)
def lq15 : Nat × Nat := rotP lq14 lq14
theorem lqB0 : polyB 1500 lq0 = true := by decide +kernel
theorem lqB1 : polyB 3000 lq1 = true := by decide +kernel
theorem lqB2 : polyB 6000 lq2 = true := by decide +kernel
theorem lqB3 : polyB 12000 lq3 = true := by decide +kernel
theorem lqB4 : polyB 24000 lq4 = true := by decide +kernel
theorem lqB5 : polyB 48000 lq5 = true := by decide +kernel
theorem lqB6 : polyB 96000 lq6 = true := by decide +kernel
theorem lqB7 : polyB 192000 lq7 = true := by decide +kernel
theorem lqB8 : polyB 384000 lq8 = true := by decide +kernel
theorem lqB9 : polyB 768000 lq9 = true := by decide +kernel
theorem lqB10 : polyB 1536000 lq10 = true := by decide +kernel
theorem lqB11 : polyB 3072000 lq11 = true := by decide +kernel
theorem lqB12 : polyB 6144000 lq12 = true := by decide +kernel
theorem lqB13 : polyB 12288000 lq13 = true := by decide +kernel
theorem lqB14 : polyB 24576000 lq14 = true := by decide +kernel
def LS0 : Nat := 0
def LC0 : Nat := 79228162514264337593543950336
def LS1 : Nat := grS 1 1 lq0.1 lq0.2 LS0 LC0
def LC1 : Nat := grC 1 1 lq0.1 lq0.2 LS0 LC0
def LS2 : Nat := grS 2 2 lq1.1 lq1.2 LS1 LC1
def LC2 : Nat := grC 2 2 lq1.1 lq1.2 LS1 LC1
def LS3 : Nat := grS 4 4 lq2.1 lq2.2 LS2 LC2
def LC3 : Nat := grC 4 4 lq2.1 lq2.2 LS2 LC2
def LS4 : Nat := grS 8 8 lq3.1 lq3.2 LS3 LC3
def LC4 : Nat := grC 8 8 lq3.1 lq3.2 LS3 LC3
def LS5 : Nat := grS 16 16 lq4.1 lq4.2 LS4 LC4
def LC5 : Nat := grC 16 16 lq4.1 lq4.2 LS4 LC4
def LS6 : Nat := grS 32 32 lq5.1 lq5.2 LS5 LC5
def LC6 : Nat := grC 32 32 lq5.1 lq5.2 LS5 LC5
def LS7 : Nat := grS 64 64 lq6.1 lq6.2 LS6 LC6
def LC7 : Nat := grC 64 64 lq6.1 lq6.2 LS6 LC6
def LS8 : Nat := grS 128 128 lq7.1 lq7.2 LS7 LC7
def LC8 : Nat := grC 128 128 lq7.1 lq7.2 LS7 LC7
def LS9 : Nat := grS 256 256 lq8.1 lq8.2 LS8 LC8
def LC9 : Nat := grC 256 256 lq8.1 lq8.2 LS8 LC8
def LS10 : Nat := grS 512 512 lq9.1 lq9.2 LS9 LC9
def LC10 : Nat := grC 512 512 lq9.1 lq9.2 LS9 LC9
def LS11 : Nat := grS 1024 1024 lq10.1 lq10.2 LS10 LC10
def LC11 : Nat := grC 1024 1024 lq10.1 lq10.2 LS10 LC10
def LS12 : Nat := grS 2048 2048 lq11.1 lq11.2 LS11 LC11
def LC12 : Nat := grC 2048 2048 lq11.1 lq11.2 LS11 LC11
def LS13 : Nat := grS 4096 4096 lq12.1 lq12.2 LS12 LC12
def LC13 : Nat := grC 4096 4096 lq12.1 lq12.2 LS12 LC12
def LS14 : Nat := grS 8192 8192 lq13.1 lq13.2 LS13 LC13
def LC14 : Nat := grC 8192 8192 lq13.1 lq13.2 LS13 LC13
def LS15 : Nat := grS 16384 16384 lq14.1 lq14.2 LS14 LC14
def LC15 : Nat := grC 16384 16384 lq14.1 lq14.2 LS14 LC14
def LS16 : Nat := grS 32768 27232 lq15.1 lq15.2 LS15 LC15
def LC16 : Nat := grC 32768 27232 lq15.1 lq15.2 LS15 LC15
theorem lge0 : geN 1 (LC0 % 2 ^ (224 * 1) * lq0.1) (LS0 % 2 ^ (224 * 1) * lq0.2) = true := by decide +kernel
theorem lge1 : geN 2 (LC1 % 2 ^ (224 * 2) * lq1.1) (LS1 % 2 ^ (224 * 2) * lq1.2) = true := by decide +kernel
theorem lge2 : geN 4 (LC2 % 2 ^ (224 * 4) * lq2.1) (LS2 % 2 ^ (224 * 4) * lq2.2) = true := by decide +kernel
theorem lge3 : geN 8 (LC3 % 2 ^ (224 * 8) * lq3.1) (LS3 % 2 ^ (224 * 8) * lq3.2) = true := by decide +kernel
theorem lge4 : geN 16 (LC4 % 2 ^ (224 * 16) * lq4.1) (LS4 % 2 ^ (224 * 16) * lq4.2) = true := by decide +kernel
theorem lge5 : geN 32 (LC5 % 2 ^ (224 * 32) * lq5.1) (LS5 % 2 ^ (224 * 32) * lq5.2) = true := by decide +kernel
theorem lge6 : geN 64 (LC6 % 2 ^ (224 * 64) * lq6.1) (LS6 % 2 ^ (224 * 64) * lq6.2) = true := by decide +kernel
theorem lge7 : geN 128 (LC7 % 2 ^ (224 * 128) * lq7.1) (LS7 % 2 ^ (224 * 128) * lq7.2) = true := by decide +kernel
theorem lge8 : geN 256 (LC8 % 2 ^ (224 * 256) * lq8.1) (LS8 % 2 ^ (224 * 256) * lq8.2) = true := by decide +kernel
theorem lge9 : geN 512 (LC9 % 2 ^ (224 * 512) * lq9.1) (LS9 % 2 ^ (224 * 512) * lq9.2) = true := by decide +kernel
theorem lge10 : geN 1024 (LC10 % 2 ^ (224 * 1024) * lq10.1) (LS10 % 2 ^ (224 * 1024) * lq10.2) = true := by decide +kernel
theorem lge11 : geN 2048 (LC11 % 2 ^ (224 * 2048) * lq11.1) (LS11 % 2 ^ (224 * 2048) * lq11.2) = true := by decide +kernel
theorem lge12 : geN 4096 (LC12 % 2 ^ (224 * 4096) * lq12.1) (LS12 % 2 ^ (224 * 4096) * lq12.2) = true := by decide +kernel
theorem lge13 : geN 8192 (LC13 % 2 ^ (224 * 8192) * lq13.1) (LS13 % 2 ^ (224 * 8192) * lq13.2) = true := by decide +kernel
theorem lge14 : geN 16384 (LC14 % 2 ^ (224 * 16384) * lq14.1) (LS14 % 2 ^ (224 * 16384) * lq14.2) = true := by decide +kernel
theorem lge15 : geN 27232 (LC15 % 2 ^ (224 * 27232) * lq15.1) (LS15 % 2 ^ (224 * 27232) * lq15.2) = true := by decide +kernel
/-- The errors of the lanes, in units of the fixed point. -/
def lerr : Nat → Rat
  | 0 => 0
  | n + 1 => 3 / 2 * lerr n + 80 * uu
theorem lerr_small : lerr 16 ≤ 1 / 10 ^ 20 ∧ lerr 15 ≤ 1 / 100 := by decide +kernel
theorem lerr_up (n : Nat) : 0 ≤ lerr n ∧ lerr n ≤ lerr (n + 1) := by
  have e0 := uu_pos
  have k : 0 ≤ lerr n := by
    induction n with
    | zero => show (0 : Rat) ≤ 0; grind
    | succ n ih => show 0 ≤ 3 / 2 * lerr n + 80 * uu; grind
  refine ⟨k, ?_⟩
  show lerr n ≤ 3 / 2 * lerr n + 80 * uu
  grind
theorem lerr_le {m n : Nat} (h : m ≤ n) : lerr m ≤ lerr n := by
  obtain ⟨k, rfl⟩ := Nat.exists_eq_add_of_le h
  induction k with
  | zero => rw [Nat.add_zero]; grind
  | succ k ih => have a := (lerr_up (m + k)).2; have b := ih (by omega); rw [← Nat.add_assoc]; grind
theorem lane_step {h : Rat} {M : Nat} (R : Rot h M) {i n m S C : Nat} {q : Nat × Nat} (L : Lanes h M (lerr i) n S C) (hq : Fits h M (20 * uu) q (1500 * n)) (h0 : 0 < n) (hm : m ≤ n) (hn : n ≤ 60000) (hi : i ≤ 15)
    (hge : geN m (C % 2 ^ (224 * m) * q.1) (S % 2 ^ (224 * m) * q.2) = true) : Lanes h M (lerr (i + 1)) (n + m) (grS n m q.1 q.2 S C) (grC n m q.1 q.2 S C) := by
  have a := lerr_le hi
  have b := lerr_small.2
  have us := uu_small
  have e0 := uu_pos
  obtain ⟨f, g, x, y, z⟩ := grow R L (c := q.1) (s := q.2) hq h0 hm hn (by grind) (by grind) hge
  refine ⟨f, g, x, y, fun j hj => (z j hj).mono ?_⟩
  show _ ≤ 3 / 2 * lerr i + 80 * uu
  grind
theorem fits_10 {h : Rat} {M : Nat} {p : Nat × Nat} {a : Nat} (f : Fits h M (2 * uu) p a) : Fits h M (20 * uu) p a := f.mono (by have e0 := uu_pos; grind)
theorem lqF0 {h : Rat} {M : Nat} (R : Rot h M) : Fits h M (20 * uu) lq0 (1500 * 1) := fits_10 (fits_poly R (1500 * 1) (by decide) lq0 lqB0)
theorem lqF1 {h : Rat} {M : Nat} (R : Rot h M) : Fits h M (20 * uu) lq1 (1500 * 2) := fits_10 (fits_poly R (1500 * 2) (by decide) lq1 lqB1)
theorem lqF2 {h : Rat} {M : Nat} (R : Rot h M) : Fits h M (20 * uu) lq2 (1500 * 4) := fits_10 (fits_poly R (1500 * 4) (by decide) lq2 lqB2)
theorem lqF3 {h : Rat} {M : Nat} (R : Rot h M) : Fits h M (20 * uu) lq3 (1500 * 8) := fits_10 (fits_poly R (1500 * 8) (by decide) lq3 lqB3)
theorem lqF4 {h : Rat} {M : Nat} (R : Rot h M) : Fits h M (20 * uu) lq4 (1500 * 16) := fits_10 (fits_poly R (1500 * 16) (by decide) lq4 lqB4)
theorem lqF5 {h : Rat} {M : Nat} (R : Rot h M) : Fits h M (20 * uu) lq5 (1500 * 32) := fits_10 (fits_poly R (1500 * 32) (by decide) lq5 lqB5)
theorem lqF6 {h : Rat} {M : Nat} (R : Rot h M) : Fits h M (20 * uu) lq6 (1500 * 64) := fits_10 (fits_poly R (1500 * 64) (by decide) lq6 lqB6)
theorem lqF7 {h : Rat} {M : Nat} (R : Rot h M) : Fits h M (20 * uu) lq7 (1500 * 128) := fits_10 (fits_poly R (1500 * 128) (by decide) lq7 lqB7)
theorem lqF8 {h : Rat} {M : Nat} (R : Rot h M) : Fits h M (20 * uu) lq8 (1500 * 256) := fits_10 (fits_poly R (1500 * 256) (by decide) lq8 lqB8)
theorem lqF9 {h : Rat} {M : Nat} (R : Rot h M) : Fits h M (20 * uu) lq9 (1500 * 512) := fits_10 (fits_poly R (1500 * 512) (by decide) lq9 lqB9)
theorem lqF10 {h : Rat} {M : Nat} (R : Rot h M) : Fits h M (20 * uu) lq10 (1500 * 1024) := fits_10 (fits_poly R (1500 * 1024) (by decide) lq10 lqB10)
theorem lqF11 {h : Rat} {M : Nat} (R : Rot h M) : Fits h M (20 * uu) lq11 (1500 * 2048) := fits_10 (fits_poly R (1500 * 2048) (by decide) lq11 lqB11)
theorem lqF12 {h : Rat} {M : Nat} (R : Rot h M) : Fits h M (20 * uu) lq12 (1500 * 4096) := fits_10 (fits_poly R (1500 * 4096) (by decide) lq12 lqB12)
theorem lqF13 {h : Rat} {M : Nat} (R : Rot h M) : Fits h M (20 * uu) lq13 (1500 * 8192) := fits_10 (fits_poly R (1500 * 8192) (by decide) lq13 lqB13)
theorem lqF14 {h : Rat} {M : Nat} (R : Rot h M) : Fits h M (20 * uu) lq14 (1500 * 16384) := fits_10 (fits_poly R (1500 * 16384) (by decide) lq14 lqB14)
theorem lqF15 {h : Rat} {M : Nat} (R : Rot h M) : Fits h M (20 * uu) lq15 (1500 * 32768) := by
  have a := fits_poly R (1500 * 16384) (by decide) lq14 lqB14
  have us := uu_small
  have e0 := uu_pos
  exact (rot_near R a a (by grind) (by decide) (by decide) (by decide +kernel)).mono (by grind)
theorem lanes_all {h : Rat} {M : Nat} (R : Rot h M) : Lanes h M (lerr 16) 60000 LS16 LC16 := by
  have L0 : Lanes h M (lerr 0) 1 LS0 LC0 := lanes_one h M
  have L1 : Lanes h M (lerr 1) 2 LS1 LC1 := lane_step R L0 (lqF0 R) (by omega) (by omega) (by omega) (by omega) lge0
  have L2 : Lanes h M (lerr 2) 4 LS2 LC2 := lane_step R L1 (lqF1 R) (by omega) (by omega) (by omega) (by omega) lge1
  have L3 : Lanes h M (lerr 3) 8 LS3 LC3 := lane_step R L2 (lqF2 R) (by omega) (by omega) (by omega) (by omega) lge2
  have L4 : Lanes h M (lerr 4) 16 LS4 LC4 := lane_step R L3 (lqF3 R) (by omega) (by omega) (by omega) (by omega) lge3
  have L5 : Lanes h M (lerr 5) 32 LS5 LC5 := lane_step R L4 (lqF4 R) (by omega) (by omega) (by omega) (by omega) lge4
  have L6 : Lanes h M (lerr 6) 64 LS6 LC6 := lane_step R L5 (lqF5 R) (by omega) (by omega) (by omega) (by omega) lge5
  have L7 : Lanes h M (lerr 7) 128 LS7 LC7 := lane_step R L6 (lqF6 R) (by omega) (by omega) (by omega) (by omega) lge6
  have L8 : Lanes h M (lerr 8) 256 LS8 LC8 := lane_step R L7 (lqF7 R) (by omega) (by omega) (by omega) (by omega) lge7
  have L9 : Lanes h M (lerr 9) 512 LS9 LC9 := lane_step R L8 (lqF8 R) (by omega) (by omega) (by omega) (by omega) lge8
  have L10 : Lanes h M (lerr 10) 1024 LS10 LC10 := lane_step R L9 (lqF9 R) (by omega) (by omega) (by omega) (by omega) lge9
  have L11 : Lanes h M (lerr 11) 2048 LS11 LC11 := lane_step R L10 (lqF10 R) (by omega) (by omega) (by omega) (by omega) lge10
  have L12 : Lanes h M (lerr 12) 4096 LS12 LC12 := lane_step R L11 (lqF11 R) (by omega) (by omega) (by omega) (by omega) lge11
  have L13 : Lanes h M (lerr 13) 8192 LS13 LC13 := lane_step R L12 (lqF12 R) (by omega) (by omega) (by omega) (by omega) lge12
  have L14 : Lanes h M (lerr 14) 16384 LS14 LC14 := lane_step R L13 (lqF13 R) (by omega) (by omega) (by omega) (by omega) lge13
  have L15 : Lanes h M (lerr 15) 32768 LS15 LC15 := lane_step R L14 (lqF14 R) (by omega) (by omega) (by omega) (by omega) lge14
  have L16 : Lanes h M (lerr 16) 60000 LS16 LC16 := lane_step R L15 (lqF15 R) (by omega) (by omega) (by omega) (by omega) lge15
  exact L16
def tabA : List (Nat × Nat) := [(79228162514264337593543950336, 0), (79228162514251980842982907595, 44249353477727670270506), (79228162514214910591299783228, 88498706955441537918154), (79228162514153126838494588798, 132748060433127800320089), (79228162514066629584567343576, 176997413910772654853454), (79228162513955418829518074543, 221246767388362298895391), (79228162513819494573346816391, 265496120865882929823045), (79228162513658856816053611516, 309745474343320745013557), (79228162513473505557638510026, 353994827820661941844072), (79228162513263440798101569739, 398244181297892717691733), (79228162513028662537442856178, 442493534774999269933683), (79228162512769170775662442578, 486742888251967795947066), (79228162512484965512760409882, 530992241728784493109024), (79228162512176046748736846741, 575241595205435558796702), (79228162511842414483591849516, 619490948681907190387242), (79228162511484068717325522276, 663740302158185585257790), (79228162511101009449937976800, 707989655634256940785487), (79228162510693236681429332573, 752239009110107454347478), (79228162510260750411799716793, 796488362585723323320906), (79228162509803550641049264364, 840737716061090745082916), (79228162509321637369178117899, 884987069536195917010651), (79228162508815010596186427721, 929236423011025036481256), (79228162508283670322074351860, 973485776485564300871873), (79228162507727616546842056058, 1017735129959799907559649), (79228162507146849270489713762, 1061984483433718053921726), (79228162506541368493017506131, 1106233836907304937335249), (79228162505911174214425622030, 1150483190380546755177363), (79228162505256266434714258037, 1194732543853429704825213), (79228162504576645153883618434, 1238981897325939983655942), (79228162503872310371933915215, 1283231250798063789046696), (79228162503143262088865368081, 1327480604269787318374619), (79228162502389500304678204444, 1371729957741096769016857), (79228162501611025019372659423, 1415979311211978338350555), (79228162500807836232948975846, 1460228664682418223752859), (79228162499979933945407404251, 1504478018152402622600913), (79228162499127318156748202883, 1548727371621917732271863), (79228162498249988866971637699, 1592976725090949750142855), (79228162497347946076077982361, 1637226078559484873591035), (79228162496421189784067518242, 1681475432027509299993549), (79228162495469719990940534423, 1725724785495009226727543), (79228162494493536696697327696, 1769974138961970851170163), (79228162493492639901338202558, 1814223492428380370698557), (79228162492467029604863471219, 1858472845894223982689870), (79228162491416705807273453594, 1902722199359487884521250), (79228162490341668508568477310, 1946971552824158273569844), (79228162489241917708748877700, 1991220906288221347212798), (79228162488117453407814997809, 2035470259751663302827261)]
def tabB : List (Nat × Nat) := [(79228162514264337593543950336, 0), (79228162514264325526404730567, 1382792296179061514410), (79228162514264289324987071262, 2765584592358122607598), (79228162514264228989290972418, 4148376888537182858340), (79228162514264144519316434038, 5531169184716241845415), (79228162514264035915063456121, 6913961480895299147599), (79228162514263903176532038666, 8296753777074354343670), (79228162514263746303722181675, 9679546073253407012405), (79228162514263565296633885146, 11062338369432456732582), (79228162514263360155267149080, 12445130665611503082978), (79228162514263130879621973478, 13827922961790545642370), (79228162514262877469698358338, 15210715257969583989536), (79228162514262599925496303662, 16593507554148617703253), (79228162514262298247015809449, 17976299850327646362299), (79228162514261972434256875699, 19359092146506669545451), (79228162514261622487219502413, 20741884442685686831486), (79228162514261248405903689591, 22124676738864697799181), (79228162514260850190309437232, 23507469035043702027315), (79228162514260427840436745337, 24890261331222699094664), (79228162514259981356285613906, 26273053627401688580006), (79228162514259510737856042939, 27655845923580670062118), (79228162514259015985148032436, 29038638219759643119778), (79228162514258497098161582398, 30421430515938607331763), (79228162514257954076896692824, 31804222812117562276850), (79228162514257386921353363715, 33187015108296507533817), (79228162514256795631531595071, 34569807404475442681440), (79228162514256180207431386892, 35952599700654367298499), (79228162514255540649052739178, 37335391996833280963769), (79228162514254876956395651930, 38718184293012183256028), (79228162514254189129460125147, 40100976589191073754054), (79228162514253477168246158831, 41483768885369952036624), (79228162514252741072753752980, 42866561181548817682515)]
theorem tabA_B : ((List.range 47).all fun i => polyB (32 * i) (tabA.getD i (0, 0))) = true := by decide +kernel
theorem tabB_B : ((List.range 32).all fun i => polyB i (tabB.getD i (0, 0))) = true := by decide +kernel
theorem tab_le : ((List.range 47).all fun i => (List.range 32).all fun j => Nat.ble ((tabA.getD i (0, 0)).2 * (tabB.getD j (0, 0)).2) ((tabA.getD i (0, 0)).1 * (tabB.getD j (0, 0)).1)) = true := by decide +kernel
def mulE (p : Nat × Nat) : Nat × Nat := (p.1 * 100000000, p.2 * 100000000)
/-- The angle 32 i + j. -/
def tabP (i j : Nat) : Nat × Nat := rotP (tabA.getD i (0, 0)) (tabB.getD j (0, 0))
theorem tab_fits {h : Rat} {M : Nat} (R : Rot h M) (i j : Nat) (hi : i < 47) (hj : j < 32) : Fits h M (20 * uu) (tabP i j) (32 * i + j) := by
  have a := fits_poly R (32 * i) (by omega) _ (List.all_eq_true.1 tabA_B i (List.mem_range.2 hi))
  have b := fits_poly R j (by omega) _ (List.all_eq_true.1 tabB_B j (List.mem_range.2 hj))
  have c := List.all_eq_true.1 (List.all_eq_true.1 tab_le i (List.mem_range.2 hi)) j (List.mem_range.2 hj)
  have us := uu_small
  have e0 := uu_pos
  exact (rot_near R a b (by grind) (by omega) (by omega) (Nat.le_of_ble_eq_true c)).mono (by grind)
def bigP (n : Nat) : Nat := 2 ^ n
def laneV (i j : Nat) : Nat := LS16 * ((tabP i j).1 * 100000000) + LC16 * ((tabP i j).2 * 100000000)
end Go.Proofs.YtnjedigjabijcaaDoor

namespace Go.Proofs.YtnjedigjabijcaaDoor

theorem chunk0 : ((List.range 31).all fun j => testN 60000 (laneV 0 (j + 1))) = true := by decide +kernel
theorem chunkZ : testN 60000 (laneV 0 0 + 2 ^ 191 * (1 + bigP (224 * 20000))) = true := by decide +kernel
theorem chunk1 : ((List.range 32).all fun j => testN 60000 (laneV 1 j)) = true := by decide +kernel
theorem chunk2 : ((List.range 32).all fun j => testN 60000 (laneV 2 j)) = true := by decide +kernel
theorem chunk3 : ((List.range 32).all fun j => testN 60000 (laneV 3 j)) = true := by decide +kernel
theorem chunk4 : ((List.range 32).all fun j => testN 60000 (laneV 4 j)) = true := by decide +kernel
theorem chunk5 : ((List.range 32).all fun j => testN 60000 (laneV 5 j)) = true := by decide +kernel
theorem chunk6 : ((List.range 32).all fun j => testN 60000 (laneV 6 j)) = true := by decide +kernel
theorem chunk7 : ((List.range 32).all fun j => testN 60000 (laneV 7 j)) = true := by decide +kernel
theorem chunk8 : ((List.range 32).all fun j => testN 60000 (laneV 8 j)) = true := by decide +kernel
theorem chunk9 : ((List.range 32).all fun j => testN 60000 (laneV 9 j)) = true := by decide +kernel
theorem chunk10 : ((List.range 32).all fun j => testN 60000 (laneV 10 j)) = true := by decide +kernel
theorem chunk11 : ((List.range 32).all fun j => testN 60000 (laneV 11 j)) = true := by decide +kernel
end Go.Proofs.YtnjedigjabijcaaDoor

namespace Go.Proofs.YtnjedigjabijcaaDoor

theorem chunk12 : ((List.range 32).all fun j => testN 60000 (laneV 12 j)) = true := by decide +kernel
theorem chunk13 : ((List.range 32).all fun j => testN 60000 (laneV 13 j)) = true := by decide +kernel
theorem chunk14 : ((List.range 32).all fun j => testN 60000 (laneV 14 j)) = true := by decide +kernel
theorem chunk15 : ((List.range 32).all fun j => testN 60000 (laneV 15 j)) = true := by decide +kernel
theorem chunk16 : ((List.range 32).all fun j => testN 60000 (laneV 16 j)) = true := by decide +kernel
theorem chunk17 : ((List.range 32).all fun j => testN 60000 (laneV 17 j)) = true := by decide +kernel
theorem chunk18 : ((List.range 32).all fun j => testN 60000 (laneV 18 j)) = true := by decide +kernel
theorem chunk19 : ((List.range 32).all fun j => testN 60000 (laneV 19 j)) = true := by decide +kernel
theorem chunk20 : ((List.range 32).all fun j => testN 60000 (laneV 20 j)) = true := by decide +kernel
theorem chunk21 : ((List.range 32).all fun j => testN 60000 (laneV 21 j)) = true := by decide +kernel
theorem chunk22 : ((List.range 32).all fun j => testN 60000 (laneV 22 j)) = true := by decide +kernel
theorem chunk23 : ((List.range 32).all fun j => testN 60000 (laneV 23 j)) = true := by decide +kernel
end Go.Proofs.YtnjedigjabijcaaDoor

namespace Go.Proofs.YtnjedigjabijcaaDoor

theorem chunk24 : ((List.range 32).all fun j => testN 60000 (laneV 24 j)) = true := by decide +kernel
theorem chunk25 : ((List.range 32).all fun j => testN 60000 (laneV 25 j)) = true := by decide +kernel
theorem chunk26 : ((List.range 32).all fun j => testN 60000 (laneV 26 j)) = true := by decide +kernel
theorem chunk27 : ((List.range 32).all fun j => testN 60000 (laneV 27 j)) = true := by decide +kernel
theorem chunk28 : ((List.range 32).all fun j => testN 60000 (laneV 28 j)) = true := by decide +kernel
theorem chunk29 : ((List.range 32).all fun j => testN 60000 (laneV 29 j)) = true := by decide +kernel
theorem chunk30 : ((List.range 32).all fun j => testN 60000 (laneV 30 j)) = true := by decide +kernel
theorem chunk31 : ((List.range 32).all fun j => testN 60000 (laneV 31 j)) = true := by decide +kernel
theorem chunk32 : ((List.range 32).all fun j => testN 60000 (laneV 32 j)) = true := by decide +kernel
theorem chunk33 : ((List.range 32).all fun j => testN 60000 (laneV 33 j)) = true := by decide +kernel
theorem chunk34 : ((List.range 32).all fun j => testN 60000 (laneV 34 j)) = true := by decide +kernel
theorem chunk35 : ((List.range 32).all fun j => testN 60000 (laneV 35 j)) = true := by decide +kernel
end Go.Proofs.YtnjedigjabijcaaDoor

namespace Go.Proofs.YtnjedigjabijcaaDoor

theorem chunk36 : ((List.range 32).all fun j => testN 60000 (laneV 36 j)) = true := by decide +kernel
theorem chunk37 : ((List.range 32).all fun j => testN 60000 (laneV 37 j)) = true := by decide +kernel
theorem chunk38 : ((List.range 32).all fun j => testN 60000 (laneV 38 j)) = true := by decide +kernel
theorem chunk39 : ((List.range 32).all fun j => testN 60000 (laneV 39 j)) = true := by decide +kernel
theorem chunk40 : ((List.range 32).all fun j => testN 60000 (laneV 40 j)) = true := by decide +kernel
theorem chunk41 : ((List.range 32).all fun j => testN 60000 (laneV 41 j)) = true := by decide +kernel
theorem chunk42 : ((List.range 32).all fun j => testN 60000 (laneV 42 j)) = true := by decide +kernel
theorem chunk43 : ((List.range 32).all fun j => testN 60000 (laneV 43 j)) = true := by decide +kernel
theorem chunk44 : ((List.range 32).all fun j => testN 60000 (laneV 44 j)) = true := by decide +kernel
theorem chunk45 : ((List.range 32).all fun j => testN 60000 (laneV 45 j)) = true := by decide +kernel
theorem chunk46 : ((List.range 28).all fun j => testN 60000 (laneV 46 j)) = true := by decide +kernel
end Go.Proofs.YtnjedigjabijcaaDoor

namespace Go.Proofs.YtnjedigjabijcaaDoor

theorem chunk_at : ∀ i j : Nat, j < 32 → 32 * i + j < 1500 → 0 < 32 * i + j → testN 60000 (laneV i j) = true
  | 0, j + 1, hj, _, _ => List.all_eq_true.1 chunk0 j (List.mem_range.2 (by omega))
  | 1, j, hj, _, _ => List.all_eq_true.1 chunk1 j (List.mem_range.2 hj)
  | 2, j, hj, _, _ => List.all_eq_true.1 chunk2 j (List.mem_range.2 hj)
  | 3, j, hj, _, _ => List.all_eq_true.1 chunk3 j (List.mem_range.2 hj)
  | 4, j, hj, _, _ => List.all_eq_true.1 chunk4 j (List.mem_range.2 hj)
  | 5, j, hj, _, _ => List.all_eq_true.1 chunk5 j (List.mem_range.2 hj)
  | 6, j, hj, _, _ => List.all_eq_true.1 chunk6 j (List.mem_range.2 hj)
  | 7, j, hj, _, _ => List.all_eq_true.1 chunk7 j (List.mem_range.2 hj)
  | 8, j, hj, _, _ => List.all_eq_true.1 chunk8 j (List.mem_range.2 hj)
  | 9, j, hj, _, _ => List.all_eq_true.1 chunk9 j (List.mem_range.2 hj)
  | 10, j, hj, _, _ => List.all_eq_true.1 chunk10 j (List.mem_range.2 hj)
  | 11, j, hj, _, _ => List.all_eq_true.1 chunk11 j (List.mem_range.2 hj)
  | 12, j, hj, _, _ => List.all_eq_true.1 chunk12 j (List.mem_range.2 hj)
  | 13, j, hj, _, _ => List.all_eq_true.1 chunk13 j (List.mem_range.2 hj)
  | 14, j, hj, _, _ => List.all_eq_true.1 chunk14 j (List.mem_range.2 hj)
  | 15, j, hj, _, _ => List.all_eq_true.1 chunk15 j (List.mem_range.2 hj)
  | 16, j, hj, _, _ => List.all_eq_true.1 chunk16 j (List.mem_range.2 hj)
  | 17, j, hj, _, _ => List.all_eq_true.1 chunk17 j (List.mem_range.2 hj)
  | 18, j, hj, _, _ => List.all_eq_true.1 chunk18 j (List.mem_range.2 hj)
  | 19, j, hj, _, _ => List.all_eq_true.1 chunk19 j (List.mem_range.2 hj)
  | 20, j, hj, _, _ => List.all_eq_true.1 chunk20 j (List.mem_range.2 hj)
  | 21, j, hj, _, _ => List.all_eq_true.1 chunk21 j (List.mem_range.2 hj)
  | 22, j, hj, _, _ => List.all_eq_true.1 chunk22 j (List.mem_range.2 hj)
  | 23, j, hj, _, _ => List.all_eq_true.1 chunk23 j (List.mem_range.2 hj)
  | 24, j, hj, _, _ => List.all_eq_true.1 chunk24 j (List.mem_range.2 hj)
  | 25, j, hj, _, _ => List.all_eq_true.1 chunk25 j (List.mem_range.2 hj)
  | 26, j, hj, _, _ => List.all_eq_true.1 chunk26 j (List.mem_range.2 hj)
  | 27, j, hj, _, _ => List.all_eq_true.1 chunk27 j (List.mem_range.2 hj)
  | 28, j, hj, _, _ => List.all_eq_true.1 chunk28 j (List.mem_range.2 hj)
  | 29, j, hj, _, _ => List.all_eq_true.1 chunk29 j (List.mem_range.2 hj)
  | 30, j, hj, _, _ => List.all_eq_true.1 chunk30 j (List.mem_range.2 hj)
  | 31, j, hj, _, _ => List.all_eq_true.1 chunk31 j (List.mem_range.2 hj)
  | 32, j, hj, _, _ => List.all_eq_true.1 chunk32 j (List.mem_range.2 hj)
  | 33, j, hj, _, _ => List.all_eq_true.1 chunk33 j (List.mem_range.2 hj)
  | 34, j, hj, _, _ => List.all_eq_true.1 chunk34 j (List.mem_range.2 hj)
  | 35, j, hj, _, _ => List.all_eq_true.1 chunk35 j (List.mem_range.2 hj)
  | 36, j, hj, _, _ => List.all_eq_true.1 chunk36 j (List.mem_range.2 hj)
  | 37, j, hj, _, _ => List.all_eq_true.1 chunk37 j (List.mem_range.2 hj)
  | 38, j, hj, _, _ => List.all_eq_true.1 chunk38 j (List.mem_range.2 hj)
  | 39, j, hj, _, _ => List.all_eq_true.1 chunk39 j (List.mem_range.2 hj)
  | 40, j, hj, _, _ => List.all_eq_true.1 chunk40 j (List.mem_range.2 hj)
  | 41, j, hj, _, _ => List.all_eq_true.1 chunk41 j (List.mem_range.2 hj)
  | 42, j, hj, _, _ => List.all_eq_true.1 chunk42 j (List.mem_range.2 hj)
  | 43, j, hj, _, _ => List.all_eq_true.1 chunk43 j (List.mem_range.2 hj)
  | 44, j, hj, _, _ => List.all_eq_true.1 chunk44 j (List.mem_range.2 hj)
  | 45, j, hj, _, _ => List.all_eq_true.1 chunk45 j (List.mem_range.2 hj)
  | 46, j, hj, h, _ => List.all_eq_true.1 chunk46 j (List.mem_range.2 (by omega))
  | i + 47, j, hj, h, _ => by omega
theorem pack_single (x t : Nat) : ∀ n, pack (fun l => if l = t then x else 0) n = if t < n then x * 2 ^ (224 * t) else 0
  | 0 => by rw [if_neg (Nat.not_lt_zero t)]; rfl
  | n + 1 => by
    rw [pack_succ, pack_single x t n]
    by_cases c : n = t
    · subst c
      rw [if_neg (Nat.lt_irrefl n), if_pos rfl, if_pos (Nat.lt_succ_self n), Nat.zero_add]
    · by_cases d : t < n
      · rw [if_pos d, if_neg c, if_pos (Nat.lt_succ_of_lt d), Nat.zero_mul, Nat.add_zero]
      · rw [if_neg d, if_neg c, if_neg (by omega), Nat.zero_mul]
theorem pack_pair (x t n : Nat) (ht : t < n) : x * (1 + bigP (224 * t)) = pack (fun l => (if l = 0 then x else 0) + (if l = t then x else 0)) n := by
  have e1 := pack_single x 0 n
  have e2 := pack_single x t n
  rw [if_pos (by omega), Nat.mul_zero, Nat.pow_zero, Nat.mul_one] at e1
  rw [if_pos ht] at e2
  unfold bigP
  rw [← pack_add, e1, e2, Nat.mul_add, Nat.mul_one]
theorem tab_lt {h : Rat} {M : Nat} (R : Rot h M) (i j : Nat) (hi : i < 47) (hj : j < 32) : (tabP i j).1 < 158456325028528675187087900672 ∧ (tabP i j).2 < 158456325028528675187087900672 :=
  fits_lt R (tab_fits R i j hi hj) (by decide +kernel) (by omega)
theorem lane_lt {a b c d : Nat} (ha : a < 158456325028528675187087900672) (hb : b < 158456325028528675187087900672) (hc : c < 158456325028528675187087900672) (hd : d < 158456325028528675187087900672) :
    a * (c * 100000000) + b * (d * 100000000) < 2 ^ 222 - 2 ^ 192 := by
  have big : ∀ x y : Nat, x < 158456325028528675187087900672 → y < 158456325028528675187087900672 → x * y < 2 ^ 194 := by
    intro x y hx hy
    calc x * y < 158456325028528675187087900672 * 158456325028528675187087900672 := Nat.mul_lt_mul'' hx hy
      _ = 2 ^ 194 := by decide
  have k1 := big a c ha hc
  have k2 := big b d hb hd
  rw [← Nat.mul_assoc, ← Nat.mul_assoc]
  omega
/-- No sine of an angle is near a hundred-millionth, but for those of 0 and of 30 degrees. -/
theorem lanes_far {h : Rat} {M : Nat} (R : Rot h M) : ∃ f g : Nat → Nat, ∀ l i j : Nat, l < 60000 → j < 32 → 32 * i + j < 1500 → ¬ (32 * i + j = 0 ∧ (l = 0 ∨ l = 20000)) →
    Fits h M (1 / 10 ^ 20) (g l, f l) (1500 * l) ∧ far (f l * ((tabP i j).1 * 100000000) + g l * ((tabP i j).2 * 100000000)) := by
  obtain ⟨f, g, hS, hC, hL⟩ := lanes_all R
  have hl : ∀ l, l < 60000 → Fits h M (1 / 10 ^ 20) (g l, f l) (1500 * l) := fun l hl => (hL l hl).mono lerr_small.1
  have hb : ∀ l, l < 60000 → g l < 158456325028528675187087900672 ∧ f l < 158456325028528675187087900672 := fun l h => fits_lt R (hl l h) (by decide +kernel) (by omega)
  have hV : ∀ i j, laneV i j = pack (fun l => f l * ((tabP i j).1 * 100000000) + g l * ((tabP i j).2 * 100000000)) 60000 := by
    intro i j
    unfold laneV
    rw [hS, hC, pack_mul, pack_mul, pack_add]
  refine ⟨f, g, fun l i j h1 h2 h3 h4 => ⟨hl l h1, ?_⟩⟩
  have hi : i < 47 := by omega
  obtain ⟨t1, t2⟩ := tab_lt R i j hi h2
  have lt : ∀ k, k < 60000 → f k * ((tabP i j).1 * 100000000) + g k * ((tabP i j).2 * 100000000) < 2 ^ 222 - 2 ^ 192 := fun k hk => lane_lt (hb k hk).2 (hb k hk).1 t1 t2
  rcases Nat.eq_zero_or_pos (32 * i + j) with z | z
  · obtain rfl : i = 0 := by omega
    obtain rfl : j = 0 := by omega
    have ht := chunkZ
    rw [hV, pack_pair (2 ^ 191) 20000 60000 (by omega), pack_add] at ht
    have t := test_far _ 60000 (fun k hk => by
      have := lt k hk
      clear ht
      have y : (if k = 0 then 2 ^ 191 else 0) + (if k = 20000 then 2 ^ 191 else 0) ≤ 2 ^ 192 := by split <;> split <;> decide
      exact Nat.lt_of_lt_of_le (Nat.add_lt_add_of_lt_of_le this y) (by decide)) ht l h1
    rw [if_neg (fun q => h4 ⟨rfl, Or.inl q⟩), if_neg (fun q => h4 ⟨rfl, Or.inr q⟩)] at t
    simp only [Nat.add_zero] at t
    exact t
  · have ht := chunk_at i j h2 h3 z
    rw [hV] at ht
    exact test_far _ 60000 (fun k hk => Nat.lt_of_lt_of_le (lt k hk) (Nat.sub_le _ _)) ht l h1
theorem far_near {V : Nat} (hV : far V) {x : Rat} (h1 : -(1 / 10 ^ 10) ≤ rho V * uu * uu - x) (h2 : rho V * uu * uu - x ≤ 1 / 10 ^ 10) :
    ∃ m : Nat, rho m + 8 / 10 ^ 10 ≤ x ∧ x ≤ rho m + 1 - 8 / 10 ^ 10 := by
  obtain ⟨l, u⟩ := hV
  refine ⟨V / 2 ^ 192, ?_⟩
  have e : V = V / 2 ^ 192 * 2 ^ 192 + V % 2 ^ 192 := by omega
  have r : rho V = rho (V / 2 ^ 192) * rho (2 ^ 192) + rho (V % 2 ^ 192) := by
    rw [← rho_mul, ← rho_add, ← e]
  have w : rho (2 ^ 192) * uu * uu = 1 := by rw [rho_cast]; decide +kernel
  have a1 := rho_le l
  have a2 := rho_le (Nat.le_of_lt u)
  have c1 : 9 / 10 ^ 10 ≤ rho (2 ^ 162) * uu * uu := by rw [rho_cast]; decide +kernel
  have c2 : rho (2 ^ 192 - 2 ^ 162) * uu * uu ≤ 1 - 9 / 10 ^ 10 := by rw [rho_cast]; decide +kernel
  have q := Rat.mul_nonneg (show 0 ≤ uu by have := uu_pos; grind) (show 0 ≤ uu by have := uu_pos; grind)
  generalize rho (V / 2 ^ 192) = m at *
  generalize rho (V % 2 ^ 192) = v at *
  generalize rho (2 ^ 162) = A at *
  generalize rho (2 ^ 192 - 2 ^ 162) = B at *
  generalize rho (2 ^ 192) = W at *
  generalize uu = e at *
  have k1 := Rat.mul_nonneg (show 0 ≤ v - A by grind) q
  have k2 := Rat.mul_nonneg (show 0 ≤ B - v by grind) q
  have g1 : (m * W + v) * e * e = m * (W * e * e) + v * (e * e) := by grind
  rw [w] at g1
  rw [r, g1] at h1 h2
  constructor <;> grind
/-- The sine of each angle below 90 degrees is far from all hundred-millionths. -/
theorem margin {h : Rat} {M : Nat} (R : Rot h M) (a : Nat) (ha : a < 90000000) (h0 : a ≠ 0) (h1 : a ≠ 30000000) :
    ∃ m : Nat, rho m + 8 / 10 ^ 10 ≤ 100000000 * zs h M a ∧ 100000000 * zs h M a ≤ rho m + 1 - 8 / 10 ^ 10 := by
  obtain ⟨f, g, H⟩ := lanes_far R
  have el : 1500 * (a / 1500) + (32 * (a % 1500 / 32) + a % 1500 % 32) = a := by omega
  obtain ⟨F, V⟩ := H (a / 1500) (a % 1500 / 32) (a % 1500 % 32) (by omega) (Nat.mod_lt _ (by decide)) (by omega) (by omega)
  have T := tab_fits R (a % 1500 / 32) (a % 1500 % 32) (by omega) (Nat.mod_lt _ (by decide))
  obtain ⟨_, z2⟩ := z_add h M (1500 * (a / 1500)) (32 * (a % 1500 / 32) + a % 1500 % 32)
  rw [el] at z2
  have us := uu_small
  have e0 := uu_pos
  obtain ⟨_, n1, n2⟩ := turn_near2 (slim_z R (1500 * (a / 1500)) (by omega)) (slim_z R (32 * (a % 1500 / 32) + a % 1500 % 32) (by omega)) (by decide +kernel) F.1 F.2 T.1 T.2
  rw [← z2] at n1 n2
  refine far_near V ?_ ?_
  all_goals
    rw [rho_add, rho_mul, rho_mul, rho_mul, rho_mul, show rho 100000000 = 100000000 by rw [rho_cast]; rfl]
    simp only at n1 n2
    generalize rho (g (a / 1500)) = x at *
    generalize rho (f (a / 1500)) = y at *
    generalize rho (tabP (a % 1500 / 32) (a % 1500 % 32)).1 = z at *
    generalize rho (tabP (a % 1500 / 32) (a % 1500 % 32)).2 = t at *
    generalize zs h M a = s at *
    clear V F T z2 H
    generalize uu = e at *
    grind
end Go.Proofs.YtnjedigjabijcaaDoor

namespace Go.Proofs.YtnjedigjabijcaaDoor

theorem ww_add (h : Rat) (m n : Nat) : ww h (m + n) = ww h m * ww h n := by
  induction n with
  | zero => show ww h m = ww h m * 1; grind
  | succ n ih => rw [← Nat.add_assoc, ww_succ, ww_succ, ih]; grind
theorem dd_90 : 90000000 * dd ≤ 8 / 5 := by decide +kernel
theorem tail42 : tt 0 (8 / 5) 42 ≤ 1 / 10 ^ 42 := by decide +kernel
theorem x_90 (a : Nat) (ha : a ≤ 90000000) : 0 ≤ rho a * dd ∧ rho a * dd ≤ 8 / 5 := by
  have p := dd_pos
  have d := dd_90
  have a0 := rho_nonneg a
  have a1 := rho_le ha
  rw [show rho 90000000 = 90000000 by rw [rho_cast]; rfl] at a1
  have k1 := Rat.mul_nonneg a0 (show 0 ≤ dd by grind)
  have k2 := Rat.mul_nonneg (show 0 ≤ 90000000 - rho a by grind) (show 0 ≤ dd by grind)
  constructor <;> grind
theorem high_poly {h : Rat} {M : Nat} (R : Rot h M) (a : Nat) (ha : a ≤ 90000000) : Next (1 / 10 ^ 36) (zs h M a) (pp 0 (rho a * dd) 41).2 := by
  have x := x_90 a ha
  obtain ⟨u1, u2⟩ := ww_45 R (a / 2) (by omega)
  obtain ⟨v1, v2⟩ := ww_45 R (a - a / 2) (by omega)
  have w : ww h (a * M) = ww h (a / 2 * M) * ww h ((a - a / 2) * M) := by
    rw [← ww_add, ← Nat.add_mul, show a / 2 + (a - a / 2) = a by omega]
  have k := Rat.mul_nonneg (show 0 ≤ 5 - ww h (a / 2 * M) by grind) (show 0 ≤ ww h ((a - a / 2) * M) by grind)
  have w25 : ww h (a * M) ≤ 25 := by rw [w]; grind
  have t := uu_mono (rho a * dd) (8 / 5) (by grind) (by grind) 42
  have t0 := uu_nonneg (rho a * dd) (by grind) 42
  have t2 := tail42
  have s := R.small
  clear k w u1 u2 v1 v2
  have n := near_poly h R.pos 41 (a * M) (by rw [rot_x R]; grind) (1 / 10 ^ 36) (by
    rw [rot_x R, show rho 41 = 41 by rw [rho_cast]; rfl]
    have k := Rat.mul_nonneg (show 0 ≤ 25 - ww h (a * M) by grind) t0
    show ww h (a * M) * tt 0 (rho a * dd) 42 + _ ≤ _
    grind)
  rw [rot_x R] at n
  exact ⟨n.2.2.1, n.2.2.2⟩

/-- The reference's numbers, with 45 digits. -/
def dD : Nat := 1000000000000000000000000000000000000000000000
def sX (a : Nat) : Nat := 3141592653589793238462643383279502884197169399 * a / 180000000
def sSq (a : Nat) : Nat := sX a * sX a / dD
def sTm (a : Nat) : Nat → Nat
  | 0 => sX a
  | k + 1 => sTm a k * sSq a / dD * 1 / (2 * (k + 1) * (2 * (k + 1) + 1))
def sUp (a : Nat) : Nat → Nat
  | 0 => sX a
  | k + 1 => if (k + 1) % 2 = 0 then sUp a k + sTm a (k + 1) else sUp a k
def sDn (a : Nat) : Nat → Nat
  | 0 => 0
  | k + 1 => if (k + 1) % 2 = 0 then sDn a k else sDn a k + sTm a (k + 1)
def dw : Rat := 1 / 10 ^ 45
theorem dw_pos : 0 < dw := by decide +kernel
theorem dw_whole : rho dD * dw = 1 := by rw [rho_cast]; decide +kernel
theorem dd_dw : 3141592653589793238462643383279502884197169399 * dw = 180000000 * dd := by decide +kernel
theorem quot_dw (n : Nat) : rho (n / dD) * dw ≤ rho n * dw * dw ∧ rho n * dw * dw ≤ rho (n / dD) * dw + dw := by
  obtain ⟨d1, d2⟩ := rho_div n dD (by decide)
  have e0 := dw_pos
  have hW := dw_whole
  generalize rho (n / dD) = N at *
  generalize rho dD = W at *
  generalize rho n = F at *
  have q := Rat.mul_nonneg (show 0 ≤ dw by grind) (show 0 ≤ dw by grind)
  generalize dw = e at *
  have k1 := Rat.mul_nonneg (show 0 ≤ F - N * W by grind) q
  have k2 := Rat.mul_nonneg (show 0 ≤ (N + 1) * W - F by grind) q
  have g1 : N * W * (e * e) = N * e * (W * e) := by grind
  have g2 : (N + 1) * W * (e * e) = (N + 1) * e * (W * e) := by grind
  rw [hW] at g1 g2
  constructor <;> grind
theorem x_near (a : Nat) : -dw ≤ rho (sX a) * dw - rho a * dd ∧ rho (sX a) * dw - rho a * dd ≤ 0 := by
  obtain ⟨d1, d2⟩ := rho_div (3141592653589793238462643383279502884197169399 * a) 180000000 (by decide)
  rw [rho_mul, show rho 3141592653589793238462643383279502884197169399 = 3141592653589793238462643383279502884197169399 by rw [rho_cast]; rfl, show rho 180000000 = 180000000 by rw [rho_cast]; rfl] at d1 d2
  have e0 := dw_pos
  have g := dd_dw
  show -dw ≤ rho (3141592653589793238462643383279502884197169399 * a / 180000000) * dw - _ ∧ rho (3141592653589793238462643383279502884197169399 * a / 180000000) * dw - _ ≤ 0
  generalize rho (3141592653589793238462643383279502884197169399 * a / 180000000) = N at *
  generalize rho a = A at *
  have k1 := Rat.mul_nonneg (show 0 ≤ 3141592653589793238462643383279502884197169399 * A - N * 180000000 by grind) (show 0 ≤ dw by grind)
  have k2 := Rat.mul_pos (show 0 < (N + 1) * 180000000 - 3141592653589793238462643383279502884197169399 * A by grind) e0
  have g1 : (3141592653589793238462643383279502884197169399 * A - N * 180000000) * dw = A * (3141592653589793238462643383279502884197169399 * dw) - N * 180000000 * dw := by grind
  have g2 : ((N + 1) * 180000000 - 3141592653589793238462643383279502884197169399 * A) * dw = (N + 1) * 180000000 * dw - A * (3141592653589793238462643383279502884197169399 * dw) := by grind
  rw [g1, g] at k1
  rw [g2, g] at k2
  clear g1 g2 g d1 d2
  constructor <;> grind
theorem sq_near (a : Nat) (ha : a ≤ 90000000) : -(5 * dw) ≤ rho (sSq a) * dw - rho a * dd * (rho a * dd) ∧ rho (sSq a) * dw - rho a * dd * (rho a * dd) ≤ 0 := by
  obtain ⟨x0, x1⟩ := x_90 a ha
  obtain ⟨n1, n2⟩ := x_near a
  obtain ⟨q1, q2⟩ := quot_dw (sX a * sX a)
  have e0 := dw_pos
  have r0 := Rat.mul_nonneg (rho_nonneg (sX a)) (show 0 ≤ dw by grind)
  rw [rho_mul] at q1 q2
  show -(5 * dw) ≤ rho (sX a * sX a / dD) * dw - _ ∧ rho (sX a * sX a / dD) * dw - _ ≤ 0
  generalize rho (sX a * sX a / dD) = Q at *
  have g : rho (sX a) * rho (sX a) * dw * dw = (rho (sX a) * dw) * (rho (sX a) * dw) := by grind
  rw [g] at q1 q2
  generalize rho (sX a) * dw = v at *
  generalize rho a * dd = x at *
  have k1 := Rat.mul_nonneg (show 0 ≤ x - v by grind) (show 0 ≤ x + v by grind)
  have k2 := Rat.mul_nonneg (show 0 ≤ dw - (x - v) by grind) (show 0 ≤ x + v by grind)
  have k3 := Rat.mul_nonneg (show 0 ≤ dw by grind) (show 0 ≤ 4 - (x + v) by grind)
  clear g
  constructor <;> grind
theorem odd_step (x : Rat) (k : Nat) : tt 0 x (2 * (k + 1) + 1) * rho (2 * (k + 1) * (2 * (k + 1) + 1)) = tt 0 x (2 * k + 1) * (x * x) := by
  have a := uu_mul x (2 * k + 1)
  have b := uu_mul x (2 * k + 1 + 1)
  rw [show 2 * k + 1 + 1 = 2 * (k + 1) by omega] at a b
  rw [rho_mul, rho_succ]
  have e : rho (2 * (k + 1)) = rho (2 * k + 1) + 1 := by rw [← rho_succ, show 2 * k + 1 + 1 = 2 * (k + 1) by omega]
  rw [e] at b ⊢
  generalize tt 0 x (2 * (k + 1) + 1) = A at *
  generalize tt 0 x (2 * (k + 1)) = B at *
  generalize tt 0 x (2 * k + 1) = C at *
  generalize rho (2 * k + 1) = r at *
  grind
theorem six_le (k : Nat) : 6 ≤ rho (2 * (k + 1) * (2 * (k + 1) + 1)) := by
  have a : 6 ≤ 2 * (k + 1) * (2 * (k + 1) + 1) := Nat.le_trans (show 6 ≤ 2 * 3 by decide) (Nat.mul_le_mul (show 2 ≤ 2 * (k + 1) by omega) (show 3 ≤ 2 * (k + 1) + 1 by omega))
  have b := rho_le a
  rw [show rho 6 = 6 by rw [rho_cast]; rfl] at b
  exact b
theorem term_near (a : Nat) (ha : a ≤ 90000000) (k : Nat) : Next (6 * dw) (rho (sTm a k) * dw) (tt 0 (rho a * dd) (2 * k + 1)) := by
  obtain ⟨x0, x1⟩ := x_90 a ha
  have e0 := dw_pos
  induction k with
  | zero =>
    obtain ⟨n1, n2⟩ := x_near a
    have u := uu_1 (rho a * dd)
    show Next _ (rho (sX a) * dw) (tt 0 (rho a * dd) 1)
    rw [u]
    unfold Next
    constructor <;> grind
  | succ k ih =>
    obtain ⟨i1, i2⟩ := ih
    obtain ⟨s1, s2⟩ := sq_near a ha
    have o := odd_step (rho a * dd) k
    have six := six_le k
    have u0 := uu_nonneg (rho a * dd) x0 (2 * k + 1)
    have u2 := uu_two (rho a * dd) x0 (by grind) (2 * k)
    obtain ⟨q1, q2⟩ := quot_dw (sTm a k * sSq a)
    have v0 := Rat.mul_nonneg (rho_nonneg (sTm a k)) (show 0 ≤ dw by grind)
    have s0 := Rat.mul_nonneg (rho_nonneg (sSq a)) (show 0 ≤ dw by grind)
    rw [rho_mul] at q1 q2
    show Next _ (rho (sTm a k * sSq a / dD * 1 / (2 * (k + 1) * (2 * (k + 1) + 1))) * dw) _
    obtain ⟨d1, d2⟩ := rho_div (sTm a k * sSq a / dD * 1) (2 * (k + 1) * (2 * (k + 1) + 1)) (Nat.mul_pos (by omega) (by omega))
    rw [Nat.mul_one] at d1 d2 ⊢
    generalize rho (sTm a k * sSq a / dD / (2 * (k + 1) * (2 * (k + 1) + 1))) = T at *
    generalize rho (sTm a k * sSq a / dD) = Q at *
    have g : rho (sTm a k) * rho (sSq a) * dw * dw = (rho (sTm a k) * dw) * (rho (sSq a) * dw) := by grind
    rw [g] at q1 q2
    clear g
    generalize rho (2 * (k + 1) * (2 * (k + 1) + 1)) = d at *
    generalize tt 0 (rho a * dd) (2 * (k + 1) + 1) = U at *
    generalize tt 0 (rho a * dd) (2 * k + 1) = u at *
    generalize rho (sTm a k) * dw = v at *
    generalize rho (sSq a) * dw = q at *
    have xx0 := Rat.mul_nonneg x0 x0
    have xx1 := Rat.mul_nonneg (show 0 ≤ 8 / 5 - rho a * dd by grind) (show 0 ≤ 8 / 5 + rho a * dd by grind)
    generalize hX : rho a * dd * (rho a * dd) = X at *
    have xx2 : X ≤ 64 / 25 := by grind
    clear xx1 hX
    generalize dw = e at *
    have b1 := bil (a := v - u) (b := q) (A := 6 * e) (B := 64 / 25) (by grind) (by grind) (by grind) (by grind)
    have b2 := bil (a := u) (b := q - X) (A := 2) (B := 5 * e) (by grind) (by grind) (by grind) (by grind)
    have g2 : v * q = u * X + (v - u) * q + u * (q - X) := by grind
    have m1 := Rat.mul_nonneg (show 0 ≤ Q - T * d by grind) (show 0 ≤ e by grind)
    have m2 := Rat.mul_nonneg (show 0 ≤ (T + 1) * d - Q by grind) (show 0 ≤ e by grind)
    have m3 := Rat.mul_nonneg (show 0 ≤ d - 6 by grind) (show 0 ≤ e by grind)
    have h1 : (Q - T * d) * e = Q * e - T * e * d := by grind
    have h2 : ((T + 1) * d - Q) * e = T * e * d + d * e - Q * e := by grind
    rw [h1] at m1
    rw [h2] at m2
    rw [g2] at q1 q2
    have D0 : 0 < d := by grind
    clear h1 h2 g2 i1 i2 s1 s2 d1 d2 xx0 xx2 u0 u2 v0 s0 x0 x1
    generalize T * e = t at *
    have F1 := nn_of (a := 6 * e - (t - U)) (b := d) D0 (by grind)
    have F2 := nn_of (a := 6 * e + (t - U)) (b := d) D0 (by grind)
    unfold Next
    constructor <;> grind
theorem ci_at (k : Nat) : ci (2 * k) = (if k % 2 = 0 then (1, 0) else (-1, 0)) ∧ ci (2 * k + 1) = (if k % 2 = 0 then (0, 1) else (0, -1)) := by
  induction k with
  | zero => exact ⟨rfl, by show ((-0 : Rat), (1 : Rat)) = (0, 1); exact Prod.ext (by simp only; grind) rfl⟩
  | succ k ih =>
    obtain ⟨_, i2⟩ := ih
    have a : ci (2 * (k + 1)) = (if (k + 1) % 2 = 0 then (1, 0) else (-1, 0)) := by
      rw [show 2 * (k + 1) = 2 * k + 1 + 1 by omega, ci_succ, i2]
      rcases Nat.mod_two_eq_zero_or_one k with c | c
      · rw [if_pos c, if_neg (by omega)]
      · rw [if_neg (by omega), if_pos (by omega)]; exact Prod.ext (by simp only; grind) rfl
    refine ⟨a, ?_⟩
    rw [ci_succ, a]
    rcases Nat.mod_two_eq_zero_or_one (k + 1) with c | c
    · rw [if_pos c, if_pos c]; exact Prod.ext (by simp only; grind) rfl
    · rw [if_neg (by omega), if_neg (by omega)]; exact Prod.ext (by simp only; grind) rfl
theorem pp_odd (x : Rat) (k : Nat) : (pp 0 x (2 * (k + 1) + 1)).2 = (pp 0 x (2 * k + 1)).2 + (if (k + 1) % 2 = 0 then 1 else -1) * tt 0 x (2 * (k + 1) + 1) := by
  obtain ⟨c1, c2⟩ := ci_at (k + 1)
  rw [pp_succ, show pp 0 x (2 * (k + 1)) = pp 0 x (2 * k + 1 + 1) from rfl, pp_succ, show 2 * k + 1 + 1 = 2 * (k + 1) by omega, c1, c2]
  rcases Nat.mod_two_eq_zero_or_one (k + 1) with c | c
  · rw [if_pos c, if_pos c, if_pos c]
    simp only
    grind
  · rw [if_neg (by omega), if_neg (by omega), if_neg (by omega)]
    simp only
    grind
theorem sum_near (a : Nat) (ha : a ≤ 90000000) (k : Nat) : Next (6 * (rho k + 1) * dw) (rho (sUp a k) * dw - rho (sDn a k) * dw) (pp 0 (rho a * dd) (2 * k + 1)).2 := by
  have e0 := dw_pos
  induction k with
  | zero =>
    obtain ⟨n1, n2⟩ := x_near a
    have p : (pp 0 (rho a * dd) (2 * 0 + 1)).2 = rho a * dd := by
      have u := uu_1 (rho a * dd)
      show (pp 0 (rho a * dd) 0).2 + (ci 1).2 * tt 0 (rho a * dd) 1 = _
      rw [u]
      show (0 : Rat) + 1 * _ = _
      grind
    rw [p]
    show Next _ (rho (sX a) * dw - rho 0 * dw) _
    rw [rho_zero]
    unfold Next
    constructor <;> grind
  | succ k ih =>
    obtain ⟨t1, t2⟩ := term_near a ha (k + 1)
    obtain ⟨i1, i2⟩ := ih
    rw [pp_odd]
    unfold Next sUp sDn
    rw [rho_succ]
    generalize tt 0 (rho a * dd) (2 * (k + 1) + 1) = U at *
    generalize (pp 0 (rho a * dd) (2 * k + 1)).2 = p at *
    generalize rho k = r at *
    by_cases c : (k + 1) % 2 = 0
    · rw [if_pos c, if_pos c, if_pos c, rho_add]
      generalize rho (sTm a (k + 1)) = T at *
      generalize rho (sUp a k) = A at *
      generalize rho (sDn a k) = B at *
      constructor <;> grind
    · rw [if_neg c, if_neg c, if_neg c, rho_add]
      generalize rho (sTm a (k + 1)) = T at *
      generalize rho (sUp a k) = A at *
      generalize rho (sDn a k) = B at *
      constructor <;> grind
theorem series_near {h : Rat} {M : Nat} (R : Rot h M) (a : Nat) (ha : a ≤ 90000000) : Next (1 / 10 ^ 35) (rho (sUp a 20) * dw - rho (sDn a 20) * dw) (zs h M a) := by
  obtain ⟨s1, s2⟩ := sum_near a ha 20
  obtain ⟨p1, p2⟩ := high_poly R a ha
  rw [show rho 20 = 20 by rw [rho_cast]; rfl] at s1 s2
  rw [show 2 * 20 + 1 = 41 from rfl] at s1 s2
  have d : dw * 10 ^ 44 ≤ 1 := by decide +kernel
  generalize (pp 0 (rho a * dd) 41).2 = p at *
  generalize rho (sUp a 20) * dw - rho (sDn a 20) * dw = s at *
  unfold Next
  generalize dw = e at *
  constructor <;> grind
end Go.Proofs.YtnjedigjabijcaaDoor

namespace Go.Proofs.YtnjedigjabijcaaDoor

theorem rot_exs : ∃ h : Rat, ∃ M : Nat, Rot h M := by
  refine ⟨dd / 10 ^ 40, 10 ^ 40, ?_, ?_, ?_⟩
  · decide +kernel
  · decide +kernel
  · rw [rho_cast]; decide +kernel
theorem nat_le_of {m n : Nat} (h : rho m < rho n + 1) : m ≤ n := by
  rcases Nat.lt_or_ge n m with c | c
  · have := rho_lt c
    exfalso
    grind
  · exact c
/-- The greatest hundred-millionth that is not above the reference's number. -/
def steepN (a : Nat) : Nat := (sUp a 20 - sDn a 20) / 10000000000000000000000000000000000000
theorem series_ok (a : Nat) (ha : a < 90000000) (h0 : a ≠ 0) (h1 : a ≠ 30000000) : sDn a 20 ≤ sUp a 20 ∧ steepN a = hunN (fracN a) := by
  obtain ⟨h, M, R⟩ := rot_exs
  obtain ⟨m, m1, m2⟩ := margin R a ha h0 h1
  obtain ⟨s1, s2⟩ := series_near R a (by omega)
  obtain ⟨f1, f2⟩ := frac_near R a (by omega)
  obtain ⟨u1, u2⟩ := hun_near (fracN a)
  have et : 9000000000000000000 * ee ≤ 1 := by decide +kernel
  have e0 := ee_pos
  have d0 := dw_pos
  have m0 := rho_nonneg m
  have hle : sDn a 20 ≤ sUp a 20 := by
    rcases Nat.lt_or_ge (sUp a 20) (sDn a 20) with c | c
    · exfalso
      have q := rho_lt c
      have k := Rat.mul_nonneg (show 0 ≤ rho (sDn a 20) - rho (sUp a 20) by grind) (show 0 ≤ dw by grind)
      clear u1 u2 f1 f2
      generalize rho (sUp a 20) = A at *
      generalize rho (sDn a 20) = B at *
      generalize zs h M a = s at *
      generalize dw = e at *
      grind
    · exact c
  refine ⟨hle, ?_⟩
  have hH : hunN (fracN a) = m := by
    apply Nat.le_antisymm
    · apply nat_le_of
      clear s1 s2
      generalize rho (hunN (fracN a)) = H at *
      generalize rho (fracN a) = F at *
      generalize zs h M a = s at *
      generalize rho m = n at *
      generalize ee = e at *
      grind
    · apply nat_le_of
      clear s1 s2
      generalize rho (hunN (fracN a)) = H at *
      generalize rho (fracN a) = F at *
      generalize zs h M a = s at *
      generalize rho m = n at *
      generalize ee = e at *
      grind
  rw [hH]
  obtain ⟨d1, d2⟩ := rho_div (sUp a 20 - sDn a 20) 10000000000000000000000000000000000000 (by decide)
  rw [rho_sub hle] at d1 d2
  have hW : rho 10000000000000000000000000000000000000 * dw * 100000000 = 1 := by rw [rho_cast]; decide +kernel
  have g : steepN a = (sUp a 20 - sDn a 20) / 10000000000000000000000000000000000000 := rfl
  rw [← g] at d1 d2
  clear g u1 u2 f1 f2 hH
  generalize rho 10000000000000000000000000000000000000 = W at *
  generalize hs : zs h M a = s at *
  have k1 := Rat.mul_nonneg (show 0 ≤ rho (sUp a 20) - rho (sDn a 20) - rho (steepN a) * W by grind) (show 0 ≤ dw by grind)
  have k2 := Rat.mul_nonneg (show 0 ≤ (rho (steepN a) + 1) * W - (rho (sUp a 20) - rho (sDn a 20)) by grind) (show 0 ≤ dw by grind)
  apply Nat.le_antisymm
  · apply nat_le_of
    generalize rho (sUp a 20) = A at *
    generalize rho (sDn a 20) = B at *
    generalize rho (steepN a) = N at *
    generalize rho m = n at *
    generalize dw = e at *
    have g1 : (A - B - N * W) * e * 100000000 = (A * e - B * e) * 100000000 - N * (W * e * 100000000) := by grind
    rw [hW] at g1
    clear d1 d2 hle k2 hW
    generalize (A - B - N * W) * e = x at *
    grind
  · apply nat_le_of
    generalize rho (sUp a 20) = A at *
    generalize rho (sDn a 20) = B at *
    generalize rho (steepN a) = N at *
    generalize rho m = n at *
    generalize dw = e at *
    have g1 : ((N + 1) * W - (A - B)) * e * 100000000 = (N + 1) * (W * e * 100000000) - (A * e - B * e) * 100000000 := by grind
    rw [hW] at g1
    clear d1 d2 hle k1 hW
    generalize ((N + 1) * W - (A - B)) * e = x at *
    grind
end Go.Proofs.YtnjedigjabijcaaDoor
