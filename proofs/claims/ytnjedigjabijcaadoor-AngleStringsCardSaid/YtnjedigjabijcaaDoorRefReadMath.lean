import Derived.Test.YtnjedigjabijcaaDoorRefRead1
namespace Go.Proofs.YtnjedigjabijcaaDoor
open Go Go.RowKit

/-- What is behind the digits, as the reference reads it. -/
def tailE (a : Int) (rest : List UInt8) : Int × Int × Int :=
  if rest = [78] then (if 90000000 < a then (0, 0, 7) else (a, 0, 0)) else if rest = [83] then (if 90000000 < a then (0, 0, 7) else (-a, 0, 0))
  else if rest = [69] then (if 180000000 < a then (0, 0, 7) else (a, 1, 0)) else if rest = [87] then (if 180000000 < a then (0, 0, 7) else (-a, 1, 0)) else (0, 0, 6)
/-- A point, and digits behind it. -/
def pointE (a : Int) (r : List UInt8) : Int × Int × Int :=
  if figN r < 1 ∨ 6 < figN r then (0, 0, 6) else tailE (a + numI ((r.take (figN r) ++ [48, 48, 48, 48, 48, 48]).take 6)) (r.drop (figN r))
def restE (a : Int) : List UInt8 → Int × Int × Int
  | [] => tailE a []
  | h :: r => if h = 46 then pointE a r else tailE a (h :: r)
/-- What the reference's Read returns. -/
def rreadE (l : List UInt8) : Int × Int × Int :=
  if 20 < l.length then (0, 0, 3) else if figN l < 1 ∨ 3 < figN l then (0, 0, 6) else restE (numI (l.take (figN l)) * 1000000) (l.drop (figN l))

theorem read_long' (l : List UInt8) (h : 20 < l.length) : readE l = (0, 0, 3) := by unfold readE; rw [if_pos h]
theorem index_low (g : List UInt8) : -1 ≤ Lib.index g [46] := by
  induction g with
  | nil => decide
  | cons c g ih =>
    rw [Lib.index]
    split
    · omega
    · split <;> omega
theorem fig_head (l : List UInt8) (h : UInt8) (r : List UInt8) (e : l.drop (figN l) = h :: r) : digB h = false := by
  induction l with
  | nil => simp at e
  | cons c l ih =>
    unfold figN at e ih
    rw [List.takeWhile_cons] at e
    cases hc : digB c
    · rw [hc] at e
      simp at e
      rw [← e.1]; exact hc
    · rw [hc] at e
      simp only [if_true, List.length_cons, List.drop_succ_cons] at e
      exact ih e
theorem tail_long (a : Int) (x y : UInt8) (r : List UInt8) : tailE a (x :: y :: r) = (0, 0, 6) := by
  unfold tailE
  rw [if_neg (by simp), if_neg (by simp), if_neg (by simp), if_neg (by simp)]
theorem tail_nil (a : Int) : tailE a [] = (0, 0, 6) := by
  unfold tailE
  rw [if_neg (by simp), if_neg (by simp), if_neg (by simp), if_neg (by simp)]
theorem mark_last (l : List UInt8) (c : UInt8) : markE (l ++ [c]) = if 78 = c then some (0, 1, 90000000) else if 83 = c then some (0, -1, 90000000) else if 69 = c then some (1, 1, 180000000) else if 87 = c then some (1, -1, 180000000) else none := by
  unfold markE
  simp only [suffix_one, beq_iff_eq]
theorem mark_dig (l : List UInt8) (c : UInt8) (h : digB c = true) : markE (l ++ [c]) = none := by
  rw [mark_last]
  have d : ∀ k : UInt8, ((k.toNat : Int) < 48 ∨ 57 < (k.toNat : Int)) → ¬ k = c := fun k hk e => by
    have := dig_ne c h k hk
    rw [e] at this
    simp at this
  rw [if_neg (d 78 (by decide)), if_neg (d 83 (by decide)), if_neg (d 69 (by decide)), if_neg (d 87 (by decide))]
theorem mark_nil : markE [] = none := by decide
theorem read_nomark (l : List UInt8) (h : ¬ 20 < l.length) (hm : markE l = none) : readE l = (0, 0, 6) := by unfold readE; rw [if_neg h, hm]
/-- A line whose front is no size is none. -/
theorem read_nosize (f : List UInt8) (c : UInt8) (h : ¬ 20 < (f ++ [c]).length) (hs : sizeE f = none) : readE (f ++ [c]) = (0, 0, 6) := by
  unfold readE
  rw [if_neg h]
  have ht : (f ++ [c]).take ((f ++ [c]).length - 1) = f := by simp
  rw [ht, hs]
  cases markE (f ++ [c]) <;> rfl
/-- One whose front is a size is what its letter says. -/
theorem read_size (f : List UInt8) (c : UInt8) (n : Int) (h : ¬ 20 < (f ++ [c]).length) (hs : sizeE f = some n) : readE (f ++ [c]) = tailE n [c] := by
  unfold readE
  rw [if_neg h, mark_last]
  have ht : (f ++ [c]).take ((f ++ [c]).length - 1) = f := by simp
  rw [ht, hs]
  unfold tailE
  by_cases c1 : 78 = c
  · subst c1; simp
  · by_cases c2 : 83 = c
    · subst c2; simp
    · by_cases c3 : 69 = c
      · subst c3; simp
      · by_cases c4 : 87 = c
        · subst c4; simp
        · simp only [if_neg c1, if_neg c2, if_neg c3, if_neg c4]
          rw [if_neg (by simpa using Ne.symm c1), if_neg (by simpa using Ne.symm c2), if_neg (by simpa using Ne.symm c3), if_neg (by simpa using Ne.symm c4)]
theorem size_digs (d : List UInt8) (h : d.all digB = true) : sizeE d = if 1 ≤ d.length ∧ d.length ≤ 3 then some (numI d * 1000000) else none := by
  unfold sizeE
  rw [cut_none d h]
  simp only [Bool.not_false, Bool.true_or, Bool.and_true, List.append_nil, List.length_nil]
  have z : numI (d ++ List.replicate (6 - 0) 48) = numI d * 1000000 := by
    rw [numI_append]
    have e : numI (List.replicate (6 - 0) 48) = 0 := by decide
    rw [e]
    simp
  rw [z]
  by_cases c : 1 ≤ d.length ∧ d.length ≤ 3
  · rw [digsB_ok d 3 h c.1 c.2, if_pos rfl, if_pos c]
  · have : digsB d 3 = false := by unfold digsB; rw [h]; simp; omega
    rw [this, if_neg c]; rfl
theorem size_point (d g : List UInt8) (h : d.all digB = true) : sizeE (d ++ 46 :: g) = if digsB d 3 && digsB g 6 then some (numI (d ++ g ++ List.replicate (6 - g.length) 48)) else none := by
  unfold sizeE
  rw [cut_dot d g h]
  simp
theorem digsB_bad (l : List UInt8) (m : Nat) (c : UInt8) (hc : c ∈ l) (h : digB c = false) : digsB l m = false := by
  unfold digsB
  have : l.all digB = false := by
    rw [Bool.eq_false_iff]
    intro ha
    rw [List.all_eq_true.1 ha c hc] at h
    cases h
  rw [this]; rfl
theorem index_far (d g : List UInt8) (c : UInt8) (h : d.all digB = true) (hc : ¬ 46 = c) : Lib.index (d ++ c :: g) [46] = -1 ∨ (d.length : Int) < Lib.index (d ++ c :: g) [46] := by
  induction d with
  | nil =>
    have e : (46 == c) = false := by simpa using hc
    rw [List.nil_append, Lib.index]
    simp only [List.isPrefixOf, e, Bool.false_and, Bool.false_eq_true, if_false, List.length_nil]
    by_cases k : Lib.index g [46] = -1
    · rw [k]; exact Or.inl rfl
    · rw [if_neg (by simpa using k)]
      have : -1 ≤ Lib.index g [46] := index_low g
      right
      omega
  | cons x d ih =>
    simp only [List.all_cons, Bool.and_eq_true] at h
    have e := dig_ne x h.1 46 (Or.inl (by decide))
    rw [List.cons_append, Lib.index]
    simp only [List.isPrefixOf, e, Bool.false_and, Bool.false_eq_true, if_false, List.length_cons]
    rcases ih h.2 with k | k
    · rw [k]; exact Or.inl rfl
    · rw [if_neg (by simp; omega)]
      right
      omega
theorem size_bad (d g : List UInt8) (c : UInt8) (h : d.all digB = true) (hc : ¬ 46 = c) (hd : digB c = false) : sizeE (d ++ c :: g) = none := by
  have hi := index_far d g c h hc
  have hm : c ∈ (Lib.cut (d ++ c :: g) [46]).1 := by
    unfold Lib.cut
    rcases hi with k | k
    · rw [if_neg (by rw [k]; decide)]; simp
    · rw [if_pos (by omega)]
      simp only
      rw [List.take_append]
      obtain ⟨j, hj⟩ : ∃ j, (Lib.index (d ++ c :: g) [46]).toNat - d.length = j + 1 := ⟨(Lib.index (d ++ c :: g) [46]).toNat - d.length - 1, by omega⟩
      rw [hj]
      simp
  unfold sizeE
  rw [digsB_bad _ 3 c hm hd]
  rfl
theorem pad_six (g : List UInt8) (h : g.length ≤ 6) : (g ++ [48, 48, 48, 48, 48, 48]).take 6 = g ++ List.replicate (6 - g.length) 48 := by
  rw [List.take_append, List.take_of_length_le h]
  have : ([48, 48, 48, 48, 48, 48] : List UInt8) = List.replicate 6 48 := rfl
  rw [this, List.take_replicate]
  congr 2
  omega
theorem num_join (d g : List UInt8) (h : g.length ≤ 6) : numI (d ++ g ++ List.replicate (6 - g.length) 48) = numI d * 1000000 + numI (g ++ List.replicate (6 - g.length) 48) := by
  rw [List.append_assoc, numI_append]
  have : (g ++ List.replicate (6 - g.length) (48 : UInt8)).length = 6 := by simp; omega
  rw [this]
  rfl
theorem split_last (r : List UInt8) (h : r ≠ []) : ∃ f c, r = f ++ [c] := ⟨r.dropLast, r.getLast h, (List.dropLast_concat_getLast h).symm⟩

/-- The reference reads as the program does. -/
theorem rread_eq (l : List UInt8) : rreadE l = readE l := by
  by_cases h20 : 20 < l.length
  · unfold rreadE; rw [if_pos h20, read_long' l h20]
  · unfold rreadE
    rw [if_neg h20]
    obtain ⟨hD, hk⟩ := fig_take l
    have hH := fig_head l
    have hl : l = l.take (figN l) ++ l.drop (figN l) := (List.take_append_drop _ _).symm
    have hlen : (l.take (figN l)).length = figN l := by rw [List.length_take]; omega
    generalize figN l = k at *
    generalize l.take k = D at *
    generalize l.drop k = R at *
    subst hl
    subst hlen
    cases R with
    | nil =>
      have hr : readE (D ++ []) = (0, 0, 6) := by
        refine read_nomark _ h20 ?_
        rw [List.append_nil]
        by_cases hd : D = []
        · subst hd; exact mark_nil
        · obtain ⟨f, c, rfl⟩ := split_last D hd
          rw [List.all_append, Bool.and_eq_true] at hD
          exact mark_dig f c (by simpa using hD.2)
      rw [hr]
      split
      · rfl
      · exact tail_nil _
    | cons c r =>
      have hc := hH c r rfl
      by_cases c46 : c = 46
      · subst c46
        by_cases hr : r = []
        · subst hr
          have e : readE (D ++ [46]) = (0, 0, 6) := read_nomark _ h20 (by rw [mark_last]; rfl)
          rw [e]
          split
          · rfl
          · rfl
        · obtain ⟨f, x, rfl⟩ := split_last r hr
          have e : D ++ 46 :: (f ++ [x]) = (D ++ 46 :: f) ++ [x] := by simp
          have hs := size_point D f hD
          obtain ⟨hF, hm⟩ := fig_take (f ++ [x])
          have hH2 := fig_head (f ++ [x])
          have hl2 : f ++ [x] = (f ++ [x]).take (figN (f ++ [x])) ++ (f ++ [x]).drop (figN (f ++ [x])) := (List.take_append_drop _ _).symm
          have hlen2 : ((f ++ [x]).take (figN (f ++ [x]))).length = figN (f ++ [x]) := by rw [List.length_take]; omega
          simp only [restE, if_true, pointE]
          generalize figN (f ++ [x]) = m at *
          generalize (f ++ [x]).take m = F at *
          generalize (f ++ [x]).drop m = R2 at *
          subst hlen2
          rw [e] at h20 ⊢
          cases R2 with
          | nil =>
            rw [List.append_nil] at hl2
            subst hl2
            rw [List.all_append, Bool.and_eq_true] at hF
            rw [read_nomark _ h20 (mark_dig _ x (by simpa using hF.2))]
            split
            · rfl
            · split
              · rfl
              · exact tail_nil _
          | cons c2 R3 =>
            have hc2 := hH2 c2 R3 rfl
            by_cases h3 : R3 = []
            · subst h3
              obtain ⟨rfl, hx⟩ := List.append_inj' hl2 rfl
              obtain rfl : x = c2 := by simpa using hx
              by_cases d1 : D.length < 1 ∨ 3 < D.length
              · have : digsB D 3 = false := by unfold digsB; rw [hD]; simp; omega
                rw [this] at hs
                rw [if_pos d1, read_nosize _ x h20 hs]
              · rw [if_neg d1]
                rw [digsB_ok D 3 hD (by omega) (by omega)] at hs
                by_cases d2 : f.length < 1 ∨ 6 < f.length
                · have : digsB f 6 = false := by unfold digsB; rw [hF]; simp; omega
                  rw [this] at hs
                  rw [if_pos d2, read_nosize _ x h20 hs]
                · rw [digsB_ok f 6 hF (by omega) (by omega)] at hs
                  rw [if_neg d2, read_size _ x _ h20 hs, num_join D f (by omega), pad_six f (by omega)]
            · obtain ⟨R4, c4, rfl⟩ := split_last R3 h3
              have hl3 : f ++ [x] = (F ++ c2 :: R4) ++ [c4] := by rw [hl2]; simp
              obtain ⟨rfl, hx⟩ := List.append_inj' hl3 rfl
              have hb := digsB_bad (F ++ c2 :: R4) 6 c2 (by simp) hc2
              rw [hb, Bool.and_false] at hs
              rw [read_nosize _ x h20 hs]
              split
              · rfl
              · split
                · rfl
                · cases R4 with
                  | nil => exact tail_long _ _ _ _
                  | cons y R5 => exact tail_long _ _ _ _
      · have n46 : ¬ 46 = c := fun e => c46 e.symm
        by_cases hr : r = []
        · subst hr
          have hs := size_digs D hD
          by_cases hk' : 1 ≤ D.length ∧ D.length ≤ 3
          · rw [if_pos hk'] at hs
            rw [read_size D c _ h20 hs, if_neg (by omega)]
            simp only [restE, if_neg c46]
          · rw [if_neg hk'] at hs
            rw [read_nosize D c h20 hs, if_pos (by omega)]
        · obtain ⟨f, x, rfl⟩ := split_last r hr
          have e : D ++ c :: (f ++ [x]) = (D ++ c :: f) ++ [x] := by simp
          rw [e] at h20 ⊢
          rw [read_nosize _ x h20 (size_bad D f c hD n46 hc)]
          split
          · rfl
          · simp only [restE, if_neg c46]
            cases f with
            | nil => exact tail_long _ _ _ _
            | cons y f => exact tail_long _ _ _ _
end Go.Proofs.YtnjedigjabijcaaDoor
