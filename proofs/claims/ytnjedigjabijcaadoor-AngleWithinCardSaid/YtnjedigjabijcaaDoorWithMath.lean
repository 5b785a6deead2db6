import Derived.Test.YtnjedigjabijcaaDoorArithMath
import Derived.Test.YtnjedigjabijcaaDoorFracMath
import Derived.Test.YtnjedigjabijcaaDoorBackMath
import Derived.Test.YtnjedigjabijcaaDoorRoots
namespace Go.Proofs.YtnjedigjabijcaaDoor
open Go Go.RowKit

/-- With a smaller enclosure as the argument the result is no greater. -/
def Shrinks (E : Int × Int → (Int × Int) × Int) : Prop :=
  ∀ y s : Int × Int, y.1 ≤ s.1 → s.1 ≤ s.2 → s.2 ≤ y.2 → (E y).2 = 0 → (E s).2 = 0 ∧ (E y).1.1 ≤ (E s).1.1 ∧ (E s).1.2 ≤ (E y).1.2

theorem inB_part {y s : Int × Int} {a b : Int} (h1 : y.1 ≤ s.1) (h2 : s.1 ≤ s.2) (h3 : s.2 ≤ y.2) (h : inB y.1 y.2 a b = true) : inB s.1 s.2 a b = true := by
  obtain ⟨i1, i2, i3⟩ := inB_yes h
  rw [inB_eq]
  exact decide_eq_true (by omega)
theorem sinesE_part (lo hi lo' hi' : Int) (h1 : lo ≤ lo') (h2 : lo' ≤ hi') (h3 : hi' ≤ hi) : (sinesE lo hi).1 ≤ (sinesE lo' hi').1 ∧ (sinesE lo' hi').2 ≤ (sinesE lo hi).2 := by
  have e1 := sinesE_within lo hi lo' h1 (by omega)
  have e2 := sinesE_within lo hi hi' (by omega) h3
  obtain ⟨m, c, hm, m1, m2, mp⟩ := passB_spec lo' hi' 90000000
  obtain ⟨n, d, hn, n1, n2, np⟩ := passB_spec lo' hi' (-90000000)
  rw [sinesE_eq lo' hi']
  simp only
  have ends : (sinesE lo hi).1 ≤ (endsE lo' hi').1 ∧ (endsE lo' hi').2 ≤ (sinesE lo hi).2 := by
    rcases Int.lt_or_eq_of_le h2 with h | h
    · rw [endsE_yes _ _ h]; unfold hullS; simp only; omega
    · rw [endsE_no _ _ (by omega)]; exact e1
  refine ⟨?_, ?_⟩
  · rw [np]
    split
    · rename_i hd
      have := sinesE_within lo hi n (by omega) (by have := of_decide_eq_true hd; omega)
      rw [hn, sineE_valley] at this
      exact this.1
    · exact ends.1
  · rw [mp]
    split
    · rename_i hd
      have := sinesE_within lo hi m (by omega) (by have := of_decide_eq_true hd; omega)
      rw [hm, sineE_peak] at this
      exact this.2
    · exact ends.2
theorem sinOf_shrinks : Shrinks fun y => sinOfE y.1 y.2 := by
  intro y s h1 h2 h3 h
  cases hy : inB y.1 y.2 (-3600000000) 3600000000
  · simp only [sinOfE_no hy] at h; exact absurd h (by decide)
  · simp only [sinOfE_yes hy, sinOfE_yes (inB_part h1 h2 h3 hy)]
    exact ⟨trivial, sinesE_part _ _ _ _ h1 h2 h3⟩
theorem cosOf_shrinks : Shrinks fun y => cosOfE y.1 y.2 := by
  intro y s h1 h2 h3 h
  cases hy : inB y.1 y.2 (-3600000000) 3600000000
  · simp only [cosOfE_no hy] at h; exact absurd h (by decide)
  · simp only [cosOfE_yes hy, cosOfE_yes (inB_part h1 h2 h3 hy)]
    exact ⟨trivial, sinesE_part _ _ _ _ (by omega) (by omega) (by omega)⟩
theorem arcN_mono (u v : Int) (h : u ≤ v) (hv : v ≤ 100000000) : arcN u ≤ arcN v := by
  obtain ⟨a1, a2⟩ := arcN_spec u (by omega)
  obtain ⟨b1, b2⟩ := arcN_spec v hv
  rcases Nat.lt_or_ge (arcN v) (arcN u) with hlt | hge
  · have := a1 _ hlt; omega
  · exact hge
theorem arcsin_shrinks : Shrinks fun y => arcsinE y.1 y.2 := by
  intro y s h1 h2 h3 h
  cases hy : inB y.1 y.2 (-100000000) 100000000
  · simp only [arcsinE_no _ _ hy] at h; exact absurd h (by decide)
  · obtain ⟨i1, i2, i3⟩ := inB_yes hy
    simp only [arcsinE_ok _ _ hy, arcsinE_ok _ _ (inB_part h1 h2 h3 hy)]
    have m1 := arcN_mono s.2 y.2 h3 i3
    have m2 := arcN_mono (-s.1) (-y.1) (by omega) (by omega)
    refine ⟨trivial, ?_, ?_⟩ <;> omega
theorem arccos_shrinks : Shrinks fun y => arccosE y.1 y.2 := by
  intro y s h1 h2 h3 h
  have k := arcsin_shrinks y s h1 h2 h3
  simp only at k h ⊢
  unfold arccosE at h ⊢
  by_cases c : (arcsinE y.1 y.2).2 = 0
  · obtain ⟨k1, k2, k3⟩ := k c
    rw [if_pos c, if_pos k1]
    refine ⟨rfl, ?_, ?_⟩ <;> simp only <;> omega
  · rw [if_neg c] at h; exact absurd h c
theorem sqN_mono (a b : Nat) (h : a ≤ b) : sqN a ≤ sqN b := by
  obtain ⟨a1, a2⟩ := sqN_spec a
  obtain ⟨b1, b2⟩ := sqN_spec b
  generalize sqN a = p at *
  generalize sqN b = q at *
  rcases Nat.lt_or_ge q p with hlt | hge
  · have : (q + 1) * (q + 1) ≤ p * p := Nat.mul_le_mul hlt hlt
    omega
  · exact hge
theorem rtN_mono (m n : Nat) (h : m ≤ n) : rtN m ≤ rtN n := sqN_mono _ _ (Nat.mul_le_mul_right _ h)
theorem up_lt (p q M N : Int) (hp : 0 ≤ p) (hq : 0 ≤ q) (a : p = 0 ∨ (p - 1) * (p - 1) < M) (b : N ≤ q * q) (h : M ≤ N) : p ≤ q := by
  rcases Int.lt_or_le q p with hlt | hge
  · rcases a with a | a
    · omega
    · have hle : q ≤ p - 1 := by omega
      have : q * q ≤ (p - 1) * (p - 1) := Int.mul_le_mul hle hle hq (by omega)
      omega
  · exact hge
theorem upN_mono (m n : Nat) (h : m ≤ n) (hn : n ≤ 3000000000) : upN m ≤ upN n := by
  have a := (rt_facts m m (Nat.le_refl _) (by omega)).2.2.2.2.2
  have b := (rt_facts n n (Nat.le_refl _) hn).2.2.2.2.1
  have := up_lt (upN m) (upN n) _ _ (by omega) (by omega) (a.imp (fun e => by rw [e]; rfl) id) b (Int.mul_le_mul_of_nonneg_right (by omega) (by decide))
  omega
theorem root_shrinks : Shrinks fun y => rootE y.1 y.2 := by
  intro y s h1 h2 h3 h
  cases hy : inB y.1 y.2 0 3000000000
  · simp only [rootE_no _ _ hy] at h; exact absurd h (by decide)
  · obtain ⟨i1, i2, i3⟩ := inB_yes hy
    simp only [rootE_ok _ _ hy, rootE_ok _ _ (inB_part h1 h2 h3 hy)]
    have m1 := rtN_mono y.1.toNat s.1.toNat (by omega)
    have m2 := upN_mono s.2.toNat y.2.toNat (by omega) (by omega)
    exact ⟨trivial, by omega, by omega⟩

theorem checked_shrinks (p q : Int × Int) (h1 : q.1 ≤ p.1) (h2 : p.1 ≤ p.2) (h3 : p.2 ≤ q.2) (h : (checkedE q).2 = 0) :
    (checkedE p).2 = 0 ∧ (checkedE q).1.1 ≤ (checkedE p).1.1 ∧ (checkedE p).1.2 ≤ (checkedE q).1.2 := by
  cases hq : inB q.1 q.2 (-3000000000) 3000000000
  · rw [checked_no hq] at h; exact absurd h (by decide)
  · rw [checked_yes hq, checked_yes (inB_part h1 h2 h3 hq)]
    exact ⟨rfl, h1, h3⟩
theorem plus_left (z : Int × Int) : Shrinks fun y => plusE y z := by
  intro y s h1 h2 h3 h
  simp only at h ⊢
  cases hy : inB y.1 y.2 (-3000000000) 3000000000
  · rw [plusE_x hy] at h; exact absurd h (by decide)
  · cases hz : inB z.1 z.2 (-3000000000) 3000000000
    · rw [plusE_y hz] at h; exact absurd h (by decide)
    · obtain ⟨j1, j2, j3⟩ := inB_yes hz
      rw [plusE_ok hy hz] at h ⊢
      rw [plusE_ok (inB_part h1 h2 h3 hy) hz]
      exact checked_shrinks (s.1 + z.1, s.2 + z.2) (y.1 + z.1, y.2 + z.2) (by simp only; omega) (by simp only; omega) (by simp only; omega) h
theorem plusE_comm (x y : Int × Int) : plusE x y = plusE y x := by
  unfold plusE
  rw [Bool.and_comm, Int.add_comm x.1, Int.add_comm x.2]
theorem plus_right (z : Int × Int) : Shrinks fun y => plusE z y := by
  have h := plus_left z
  intro y s
  simp only [plusE_comm z]
  exact h y s
theorem minus_left (z : Int × Int) : Shrinks fun y => minusE y z := by
  intro y s h1 h2 h3 h
  simp only at h ⊢
  cases hy : inB y.1 y.2 (-3000000000) 3000000000
  · rw [minusE_no (by rw [hy]; rfl)] at h; exact absurd h (by decide)
  · cases hz : inB z.1 z.2 (-3000000000) 3000000000
    · rw [minusE_no (by rw [hz, Bool.and_false])] at h; exact absurd h (by decide)
    · obtain ⟨j1, j2, j3⟩ := inB_yes hz
      rw [minusE_ok hy hz] at h ⊢
      rw [minusE_ok (inB_part h1 h2 h3 hy) hz]
      exact checked_shrinks (s.1 - z.2, s.2 - z.1) (y.1 - z.2, y.2 - z.1) (by simp only; omega) (by simp only; omega) (by simp only; omega) h
theorem minus_right (z : Int × Int) : Shrinks fun y => minusE z y := by
  intro y s h1 h2 h3 h
  simp only at h ⊢
  cases hz : inB z.1 z.2 (-3000000000) 3000000000
  · rw [minusE_no (by rw [hz]; rfl)] at h; exact absurd h (by decide)
  · cases hy : inB y.1 y.2 (-3000000000) 3000000000
    · rw [minusE_no (by rw [hy, Bool.and_false])] at h; exact absurd h (by decide)
    · obtain ⟨j1, j2, j3⟩ := inB_yes hz
      rw [minusE_ok hz hy] at h ⊢
      rw [minusE_ok hz (inB_part h1 h2 h3 hy)]
      exact checked_shrinks (z.1 - s.2, z.2 - s.1) (z.1 - y.2, z.2 - y.1) (by simp only; omega) (by simp only; omega) (by simp only; omega) h

theorem hull_part (q a b c d : Int × Int) (ha : q.1 ≤ a.1 ∧ a.1 ≤ a.2 ∧ a.2 ≤ q.2) (hb : q.1 ≤ b.1 ∧ b.1 ≤ b.2 ∧ b.2 ≤ q.2) (hc : q.1 ≤ c.1 ∧ c.1 ≤ c.2 ∧ c.2 ≤ q.2) (hd : q.1 ≤ d.1 ∧ d.1 ≤ d.2 ∧ d.2 ≤ q.2) :
    q.1 ≤ (hullL a [b, c, d]).1 ∧ (hullL a [b, c, d]).1 ≤ (hullL a [b, c, d]).2 ∧ (hullL a [b, c, d]).2 ≤ q.2 := by
  simp only [hullL, List.foldl, hullS]
  omega
theorem cornE_part (g : Int → Int → Int × Int) (x y s t : Int × Int) (hs : s.1 ≤ s.2) (ht : t.1 ≤ t.2) (h : ∀ a b, s.1 ≤ a → a ≤ s.2 → t.1 ≤ b → b ≤ t.2 → (cornE g x y).1 ≤ (g a b).1 ∧ (g a b).1 ≤ (g a b).2 ∧ (g a b).2 ≤ (cornE g x y).2) :
    (cornE g x y).1 ≤ (cornE g s t).1 ∧ (cornE g s t).1 ≤ (cornE g s t).2 ∧ (cornE g s t).2 ≤ (cornE g x y).2 :=
  hull_part (cornE g x y) _ _ _ _ (h _ _ (by omega) (by omega) (by omega) (by omega)) (h _ _ (by omega) (by omega) (by omega) (by omega)) (h _ _ (by omega) (by omega) (by omega) (by omega)) (h _ _ (by omega) (by omega) (by omega) (by omega))
theorem times_in (x y : Int × Int) (a b : Int) (h1 : x.1 ≤ a) (h2 : a ≤ x.2) (h3 : y.1 ≤ b) (h4 : b ≤ y.2) : (cornE timesQ x y).1 ≤ (timesQ a b).1 ∧ (timesQ a b).1 ≤ (timesQ a b).2 ∧ (timesQ a b).2 ≤ (cornE timesQ x y).2 := by
  have h := cornE_times x y a b h1 h2 h3 h4
  rw [timesQ_eq]
  generalize cornE timesQ x y = q at *
  generalize a * b = m at *
  simp only
  omega
/-- What is rounded down, and up, lies between whole numbers as the fraction does. -/
theorem quo_in (n d k l : Int) (hd : 0 < d) (e1 : k * d ≤ n) (e2 : n ≤ l * d) : k ≤ n / d ∧ n / d ≤ -(-n / d) ∧ -(-n / d) ≤ l := by
  have a1 : k ≤ n / d := (Int.le_ediv_iff_mul_le hd).2 e1
  have a2 : -l ≤ -n / d := (Int.le_ediv_iff_mul_le hd).2 (by rw [Int.neg_mul]; omega)
  have m1 := Int.ediv_mul_le n (Int.ne_of_gt hd)
  have m2 := Int.ediv_mul_le (-n) (Int.ne_of_gt hd)
  have a3 : (n / d + -n / d) * d ≤ 0 * d := by rw [Int.add_mul]; omega
  have := Int.le_of_mul_le_mul_right a3 hd
  omega
theorem over_in (x y : Int × Int) (a b : Int) (h1 : x.1 ≤ a) (h2 : a ≤ x.2) (h3 : y.1 ≤ b) (h4 : b ≤ y.2) (hz : ¬ (y.1 ≤ 0 ∧ 0 ≤ y.2)) :
    (cornE overQ x y).1 ≤ (overQ a b).1 ∧ (overQ a b).1 ≤ (overQ a b).2 ∧ (overQ a b).2 ≤ (cornE overQ x y).2 := by
  rcases Int.lt_or_le 0 y.1 with hp | hn
  · have h := cornE_over_pos x y a b h1 h2 h3 h4 hp
    unfold overQ
    rw [quo_pos _ _ (by omega)]
    exact quo_in _ _ _ _ (by omega) h.1 h.2
  · have h := cornE_over_neg x y a b h1 h2 h3 h4 (by omega)
    unfold overQ
    rw [quo_neg _ _ (by omega)]
    exact quo_in _ _ _ _ (by omega) h.1 h.2
theorem times_left (z : Int × Int) : Shrinks fun y => timesE y z := by
  intro y s h1 h2 h3 h
  simp only at h ⊢
  cases hy : inB y.1 y.2 (-3000000000) 3000000000
  · rw [timesE_x hy] at h; exact absurd h (by decide)
  · cases hz : inB z.1 z.2 (-3000000000) 3000000000
    · rw [timesE_y hz] at h; exact absurd h (by decide)
    · obtain ⟨j1, j2, j3⟩ := inB_yes hz
      rw [timesE_ok hy hz] at h ⊢
      rw [timesE_ok (inB_part h1 h2 h3 hy) hz]
      obtain ⟨k1, k2, k3⟩ := cornE_part timesQ y z s z h2 j2 fun a b c1 c2 c3 c4 => times_in y z a b (by omega) (by omega) c3 c4
      exact checked_shrinks _ _ k1 k2 k3 h
theorem times_right (z : Int × Int) : Shrinks fun y => timesE z y := by
  intro y s h1 h2 h3 h
  simp only at h ⊢
  cases hz : inB z.1 z.2 (-3000000000) 3000000000
  · rw [timesE_x hz] at h; exact absurd h (by decide)
  · cases hy : inB y.1 y.2 (-3000000000) 3000000000
    · rw [timesE_y hy] at h; exact absurd h (by decide)
    · obtain ⟨j1, j2, j3⟩ := inB_yes hz
      rw [timesE_ok hz hy] at h ⊢
      rw [timesE_ok hz (inB_part h1 h2 h3 hy)]
      obtain ⟨k1, k2, k3⟩ := cornE_part timesQ z y z s j2 h2 fun a b c1 c2 c3 c4 => times_in z y a b c1 c2 (by omega) (by omega)
      exact checked_shrinks _ _ k1 k2 k3 h
theorem over_left (z : Int × Int) : Shrinks fun y => overE y z := by
  intro y s h1 h2 h3 h
  simp only at h ⊢
  cases hy : inB y.1 y.2 (-3000000000) 3000000000
  · rw [overE_x hy] at h; exact absurd h (by decide)
  · cases hz : inB z.1 z.2 (-3000000000) 3000000000
    · rw [overE_y hz] at h; exact absurd h (by decide)
    · by_cases c : z.1 ≤ 0 ∧ 0 ≤ z.2
      · rw [overE_z hy hz c] at h; exact absurd h (by decide)
      · obtain ⟨j1, j2, j3⟩ := inB_yes hz
        rw [overE_ok hy hz c] at h ⊢
        rw [overE_ok (inB_part h1 h2 h3 hy) hz c]
        obtain ⟨k1, k2, k3⟩ := cornE_part overQ y z s z h2 j2 fun a b c1 c2 c3 c4 => over_in y z a b (by omega) (by omega) c3 c4 c
        exact checked_shrinks _ _ k1 k2 k3 h
theorem over_right (z : Int × Int) : Shrinks fun y => overE z y := by
  intro y s h1 h2 h3 h
  simp only at h ⊢
  cases hz : inB z.1 z.2 (-3000000000) 3000000000
  · rw [overE_x hz] at h; exact absurd h (by decide)
  · cases hy : inB y.1 y.2 (-3000000000) 3000000000
    · rw [overE_y hy] at h; exact absurd h (by decide)
    · by_cases c : y.1 ≤ 0 ∧ 0 ≤ y.2
      · rw [overE_z hz hy c] at h; exact absurd h (by decide)
      · obtain ⟨j1, j2, j3⟩ := inB_yes hz
        rw [overE_ok hz hy c] at h ⊢
        rw [overE_ok hz (inB_part h1 h2 h3 hy) (by omega)]
        obtain ⟨k1, k2, k3⟩ := cornE_part overQ z y z s j2 h2 fun a b c1 c2 c3 c4 => over_in z y a b c1 c2 (by omega) (by omega) c
        exact checked_shrinks _ _ k1 k2 k3 h
end Go.Proofs.YtnjedigjabijcaaDoor
