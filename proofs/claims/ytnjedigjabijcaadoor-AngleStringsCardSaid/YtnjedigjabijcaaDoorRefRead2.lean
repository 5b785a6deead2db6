import Derived.Test.YtnjedigjabijcaaDoorRefReadMath
import Derived.Test.YtnjedigjabijcaaDoorRead4
import Derived.Deep.QuietTactic
import Derived.BigQuiet
namespace Go.Proofs.YtnjedigjabijcaaDoor
open Go Go.RowKit

theorem rread_long (l : List UInt8) (h : 20 < l.length) : rreadE l = (0, 0, 3) := by unfold rreadE; rw [if_pos h]
theorem rread_bad (l : List UInt8) (h : ¬ 20 < l.length) (h1 : figN l < 1 ∨ 3 < figN l) : rreadE l = (0, 0, 6) := by unfold rreadE; rw [if_neg h, if_pos h1]
theorem rread_go (l : List UInt8) (h : ¬ 20 < l.length) (h1 : ¬ (figN l < 1 ∨ 3 < figN l)) : rreadE l = restE (numI (l.take (figN l)) * 1000000) (l.drop (figN l)) := by unfold rreadE; rw [if_neg h, if_neg h1]

theorem cut_front (l : List UInt8) (k : Nat) : ((⟨l.toArray⟩ : ByteArray).extract 0 k).data.toList = l.take k := by
  rw [Lib.extract_data]; simp
theorem cut_back (l : List UInt8) (k : Nat) : (⟨l.toArray⟩ : ByteArray).extract k l.length = ⟨(l.drop k).toArray⟩ := by
  have e : ((⟨l.toArray⟩ : ByteArray).extract k l.length).data.toList = l.drop k := by
    rw [Lib.extract_data]
    simp
    exact List.take_of_length_le (by simp)
  cases hx : (⟨l.toArray⟩ : ByteArray).extract k l.length with
  | mk d => rw [hx] at e; simp only at e; rw [← e]
theorem cut_tail (c : UInt8) (r : List UInt8) : (⟨(c :: r).toArray⟩ : ByteArray).extract 1 (r.length + 1) = ⟨r.toArray⟩ := cut_back (c :: r) 1
theorem letters (c : UInt8) (r : List UInt8) : (c = 78 ∧ r = []) ∨ (c = 83 ∧ r = []) ∨ (c = 69 ∧ r = []) ∨ (c = 87 ∧ r = []) ∨ (¬ (c = 78 ∧ r = []) ∧ ¬ (c = 83 ∧ r = []) ∧ ¬ (c = 69 ∧ r = []) ∧ ¬ (c = 87 ∧ r = [])) := by
  by_cases h1 : c = 78 ∧ r = []
  · exact Or.inl h1
  · by_cases h2 : c = 83 ∧ r = []
    · exact Or.inr (Or.inl h2)
    · by_cases h3 : c = 69 ∧ r = []
      · exact Or.inr (Or.inr (Or.inl h3))
      · by_cases h4 : c = 87 ∧ r = []
        · exact Or.inr (Or.inr (Or.inr (Or.inl h4)))
        · exact Or.inr (Or.inr (Or.inr (Or.inr ⟨h1, h2, h3, h4⟩)))
theorem bytes_eq (s : ByteArray) (l : List UInt8) (h : s.data.toList = l) : s = ⟨l.toArray⟩ := by
  cases s with
  | mk d => simp only at h; rw [← h]
theorem cut_mid (c : UInt8) (r : List UInt8) (m : Nat) : (⟨(c :: r).toArray⟩ : ByteArray).extract 1 (1 + m) = ⟨(r.take m).toArray⟩ := by
  refine bytes_eq _ _ ?_
  rw [Lib.extract_data]
  simp
theorem cut_end (c : UInt8) (r : List UInt8) (m : Nat) : (⟨(c :: r).toArray⟩ : ByteArray).extract (1 + m) (r.length + 1) = ⟨(r.drop m).toArray⟩ := by
  refine bytes_eq _ _ ?_
  rw [Lib.extract_data, Nat.add_comm 1 m]
  simp only [List.drop_succ_cons]
  exact List.take_of_length_le (by rw [List.length_drop]; omega)
theorem pad_bytes (r : List UInt8) (m : Nat) : ((⟨(46 :: r).toArray⟩ : ByteArray).extract 1 (1 + m) ++ ⟨#[48, 48, 48, 48, 48, 48]⟩).extract 0 6 = ⟨((r.take m ++ [48, 48, 48, 48, 48, 48]).take 6).toArray⟩ := by
  rw [cut_mid]
  have e : (⟨#[48, 48, 48, 48, 48, 48]⟩ : ByteArray) = ⟨([48, 48, 48, 48, 48, 48] : List UInt8).toArray⟩ := rfl
  rw [e, append_bytes]
  exact bytes_eq _ _ (cut_front _ _)
theorem point_number (r : List UInt8) (m : Nat) (h : (r.take m).all digB = true) (w : World) :
    Calls Tryd.prog 70 #[.string (((⟨(46 :: r).toArray⟩ : ByteArray).extract 1 (1 + m) ++ ⟨#[48, 48, 48, 48, 48, 48]⟩).extract 0 6)] w
      fun e w' => e = .returned (.int .i64 (numI ((r.take m ++ [48, 48, 48, 48, 48, 48]).take 6))) ∧ w = w' := by
  rw [pad_bytes]
  refine rnumber_any ⟨((r.take m ++ [48, 48, 48, 48, 48, 48]).take 6).toArray⟩ ?_ ?_ w
  · show ((r.take m ++ [48, 48, 48, 48, 48, 48]).take 6).length ≤ 9
    rw [List.length_take]; omega
  · show ((r.take m ++ [48, 48, 48, 48, 48, 48]).take 6).all digB = true
    rw [List.all_eq_true]
    intro c hc
    rcases List.mem_append.1 (List.mem_of_mem_take hc) with k | k
    · exact List.all_eq_true.1 h c k
    · have : c = 48 := by simpa using k
      rw [this]; decide
theorem point_bd (r : List UInt8) (m : Nat) (h : (r.take m).all digB = true) : 0 ≤ numI ((r.take m ++ [48, 48, 48, 48, 48, 48]).take 6) ∧ numI ((r.take m ++ [48, 48, 48, 48, 48, 48]).take 6) ≤ 1000000 := by
  have ha : ((r.take m ++ [48, 48, 48, 48, 48, 48]).take 6).all digB = true := by
    rw [List.all_eq_true]
    intro c hc
    rcases List.mem_append.1 (List.mem_of_mem_take hc) with k | k
    · exact List.all_eq_true.1 h c k
    · have : c = 48 := by simpa using k
      rw [this]; decide
  obtain ⟨h1, h2⟩ := numI_digits _ ha
  have h9 : (10 : Int) ^ ((r.take m ++ [48, 48, 48, 48, 48, 48]).take 6).length ≤ 10 ^ 6 := by exact_mod_cast Nat.pow_le_pow_right (by decide) (by rw [List.length_take]; omega)
  have e9 : (10 : Int) ^ 6 = 1000000 := by decide
  omega
theorem front_number (l : List UInt8) (k : Nat) (hk : k ≤ 9) (h : (l.take k).all digB = true) (w : World) :
    Calls Tryd.prog 70 #[.string ((⟨l.toArray⟩ : ByteArray).extract 0 k)] w fun e w' => e = .returned (.int .i64 (numI (l.take k))) ∧ w = w' := by
  have h1 := rnumber_any ((⟨l.toArray⟩ : ByteArray).extract 0 k) (by
    have := congrArg List.length (cut_front l k)
    have e : ((⟨l.toArray⟩ : ByteArray).extract 0 k).data.toList.length = ((⟨l.toArray⟩ : ByteArray).extract 0 k).size := rfl
    rw [← e, this, List.length_take]; omega) (by rw [cut_front]; exact h) w
  rw [cut_front] at h1
  exact h1

set_option maxRecDepth 100000 in
set_option maxHeartbeats 4000000 in
theorem rRead_any (l : List UInt8) (hl : l.length ≤ 9223372036854775807) (w : World) :
    Calls Tryd.prog 38 #[.string ⟨l.toArray⟩] w fun e w' => e = .returned (readV (rreadE l)) ∧ Below w.heap.size w w' := by
  by_cases h20 : 20 < l.length
  · have E := Lib.hid (rread_long l h20)
    have h20' : (20 : Int) < (l.length : Int) := by omega
    go_enter Tryd.func38, Tryd.ntmps38
    go_wp2_with fail
    go_ret3
    exact ⟨by rw [E.out]; rfl, Below.refl _ _⟩
  · have h20' : ¬ (20 : Int) < (l.length : Int) := by omega
    have H20 := Lib.hid h20
    obtain ⟨hF, hm⟩ := fig_take l
    have HF := Lib.hid hF
    have CF := Lib.hid (figures_any ⟨l.toArray⟩ (by show l.length ≤ _; omega) w)
    have e0 : (⟨l.toArray⟩ : ByteArray).data.toList = l := rfl
    rw [e0] at CF
    clear hF h20 e0
    have HB := Lib.hid (rread_bad l H20.out)
    have HG := Lib.hid (rread_go l H20.out)
    generalize figN l = k at *
    go_enter Tryd.func38, Tryd.ntmps38
    go_wp2_with fail
    refine CF.out.mono ?_
    rintro e w1 ⟨rfl, rfl⟩
    clear CF h20'
    by_cases d1 : k < 1
    · have E := Lib.hid (HB.out (Or.inl d1))
      have d1' : (k : Int) < 1 := by omega
      clear HB HG
      go_wp2_with fail
      go_ret3
      exact ⟨by rw [E.out]; rfl, Below.refl _ _⟩
    · by_cases d2 : 3 < k
      · have E := Lib.hid (HB.out (Or.inr d2))
        have d1' : ¬ (k : Int) < 1 := by omega
        have d2' : (3 : Int) < (k : Int) := by omega
        clear HB HG
        go_wp2_with fail
        go_ret3
        exact ⟨by rw [E.out]; rfl, Below.refl _ _⟩
      · have E := Lib.hid (HG.out (by omega))
        have d1' : ¬ (k : Int) < 1 := by omega
        have d2' : ¬ (3 : Int) < (k : Int) := by omega
        have d3' : (k : Int) ≤ (l.length : Int) := by omega
        have d4' : (0 : Int) ≤ (k : Int) := by omega
        have CN := Lib.hid (front_number l k (by omega) HF.out)
        have hnb := numI_digits _ HF.out
        have hq : IntKind.i64.wrap (numI (l.take k) * 1000000) = numI (l.take k) * 1000000 := IntWalk.i64_in _ (by
          have h9 : (10 : Int) ^ (l.take k).length ≤ 10 ^ 9 := by exact_mod_cast Nat.pow_le_pow_right (by decide) (by rw [List.length_take]; omega)
          have e9 : (10 : Int) ^ 9 = 1000000000 := by decide
          omega)
        clear HB HG hnb
        go_upto_region 6 with (fail)
        go_quiet ((go_at_call 70; exact Calls.quiet_of_same ((CN.out _).mono fun _ _ ⟨h, h'⟩ => ⟨h, h'.symm⟩)))
        clear hq
        rw [cut_back l k]
        have hab : 0 ≤ numI (l.take k) * 1000000 ∧ numI (l.take k) * 1000000 ≤ 999000000 := by
          have hnb := numI_digits _ HF.out
          have h9 : (10 : Int) ^ (l.take k).length ≤ 10 ^ 3 := by exact_mod_cast Nat.pow_le_pow_right (by decide) (by rw [List.length_take]; omega)
          have e9 : (10 : Int) ^ 3 = 1000 := by decide
          omega
        have hR : (l.drop k).length ≤ 20 := by
          have := H20.out
          rw [List.length_drop]; omega
        generalize numI (l.take k) * 1000000 = a at *
        generalize l.drop k = R at *
        clear CN HF H20 d1' d2' d3' d4' d1 d2 hm
        cases R with
        | nil =>
          have T := Lib.hid (tail_nil a)
          have E2 : Hid (rreadE l = (0, 0, 6)) := Lib.hid (E.out.trans T.out)
          clear E T
          go_wp2_with fail
          go_ret3
          exact ⟨by rw [E2.out]; rfl, below_drewN (Below.refl _ _) _⟩
        | cons c r =>
          by_cases hc : c = 46
          · subst hc
            have hc1 : ((((⟨(46 :: r).toArray⟩ : ByteArray)[0]'(by show 0 < (46 :: r).length; simp)).toNat : Int) == 46) = true := rfl
            go_wp2_with fail
            rw [cut_tail]
            obtain ⟨hF2, hm2⟩ := fig_take r
            have hr : r.length ≤ 19 := by simp only [List.length_cons] at hR; omega
            have CF := Lib.hid (fun W => figures_any ⟨r.toArray⟩ (by show r.length ≤ _; omega) W)
            have e0 : (⟨r.toArray⟩ : ByteArray).data.toList = r := rfl
            rw [e0] at CF
            have HF2 := Lib.hid hF2
            have EP : Hid (rreadE l = pointE a r) := Lib.hid (E.out.trans (by simp only [restE, if_true]))
            have EB : Hid (figN r < 1 ∨ 6 < figN r → pointE a r = (0, 0, 6)) := Lib.hid fun h => by unfold pointE; rw [if_pos h]
            have EG : Hid (¬ (figN r < 1 ∨ 6 < figN r) → pointE a r = tailE (a + numI ((r.take (figN r) ++ [48, 48, 48, 48, 48, 48]).take 6)) (r.drop (figN r))) := Lib.hid fun h => by unfold pointE; rw [if_neg h]
            clear e0 hF2 E hR
            generalize figN r = m at *
            refine (CF.out _).mono ?_
            rintro e w5 ⟨rfl, rfl⟩
            clear CF
            by_cases d1 : m < 1
            · have E2 := Lib.hid (EP.out.trans (EB.out (Or.inl d1)))
              have d1' : (m : Int) < 1 := by omega
              clear EP EB EG
              go_wp2_with fail
              go_ret3
              exact ⟨by rw [E2.out]; rfl, below_drewN (Below.refl _ _) _⟩
            · by_cases d2 : 6 < m
              · have E2 := Lib.hid (EP.out.trans (EB.out (Or.inr d2)))
                have d1' : ¬ (m : Int) < 1 := by omega
                have d2' : (6 : Int) < (m : Int) := by omega
                clear EP EB EG
                go_wp2_with fail
                go_ret3
                exact ⟨by rw [E2.out]; rfl, below_drewN (Below.refl _ _) _⟩
              · have E2 := Lib.hid (EP.out.trans (EG.out (by omega)))
                have d1' : ¬ (m : Int) < 1 := by omega
                have d2' : ¬ (6 : Int) < (m : Int) := by omega
                have d3' : (m : Int) ≤ (r.length : Int) := by omega
                have CN := Lib.hid (point_number r m HF2.out)
                have hpb := point_bd r m HF2.out
                have hq : IntKind.i64.wrap (a + numI ((r.take m ++ [48, 48, 48, 48, 48, 48]).take 6)) = a + numI ((r.take m ++ [48, 48, 48, 48, 48, 48]).take 6) := IntWalk.i64_in _ (by omega)
                have hab' : 0 ≤ a + numI ((r.take m ++ [48, 48, 48, 48, 48, 48]).take 6) ∧ a + numI ((r.take m ++ [48, 48, 48, 48, 48, 48]).take 6) ≤ 1000000000 := by omega
                clear EP EB EG hpb
                go_upto_region 11 with (fail)
                have HV := Lib.hid (below_drewN (Below.refl w.heap.size w) nq)
                generalize w.drewN nq = V at *
                go_quiet ((go_at_call 70; exact Calls.quiet_of_same ((CN.out _).mono fun _ _ ⟨h, h'⟩ => ⟨h, h'.symm⟩)))
                clear hq CN
                rw [cut_end]
                generalize numI ((r.take m ++ [48, 48, 48, 48, 48, 48]).take 6) = n at *
                generalize r.drop m = R at *
                generalize a + n = a' at *
                clear hm2 hr d1 d2 d1' d2' d3' HF2
                cases R with
                | nil =>
                  have E3 := Lib.hid (E2.out.trans (tail_nil a'))
                  clear E2
                  go_wp2_with fail
                  go_ret3
                  exact ⟨by rw [E3.out]; rfl, below_drewN HV.out _⟩
                | cons c2 r2 =>
                  rcases letters c2 r2 with hlit | hlit | hlit | hlit | ⟨h1, h2, h3, h4⟩
                  · obtain ⟨rfl, rfl⟩ := hlit
                    have CM := Lib.hid (most_any 0 (by omega))
                    by_cases hf : 90000000 < a'
                    · have E3 : Hid (rreadE l = (0, 0, 7)) := Lib.hid (E2.out.trans (by simp [tailE, hf]))
                      clear E2
                      go_wp2_with fail
                      refine (CM.out _).mono ?_
                      rintro e w5 ⟨rfl, rfl⟩
                      simp only [if_true]
                      go_wp2_with fail
                      go_ret3
                      exact ⟨by rw [E3.out]; rfl, below_drewN HV.out _⟩
                    · have E3 : Hid (rreadE l = (a', 0, 0)) := Lib.hid (E2.out.trans (by simp [tailE, hf]))
                      clear E2
                      go_wp2_with fail
                      refine (CM.out _).mono ?_
                      rintro e w5 ⟨rfl, rfl⟩
                      simp only [if_true]
                      go_wp2_with fail
                      go_ret3
                      exact ⟨by rw [E3.out]; rfl, below_drewN HV.out _⟩
                  · obtain ⟨rfl, rfl⟩ := hlit
                    have CM := Lib.hid (most_any 0 (by omega))
                    by_cases hf : 90000000 < a'
                    · have E3 : Hid (rreadE l = (0, 0, 7)) := Lib.hid (E2.out.trans (by simp [tailE, hf]))
                      clear E2
                      go_wp2_with fail
                      refine (CM.out _).mono ?_
                      rintro e w5 ⟨rfl, rfl⟩
                      simp only [if_true]
                      go_wp2_with fail
                      go_ret3
                      exact ⟨by rw [E3.out]; rfl, below_drewN HV.out _⟩
                    · have E3 : Hid (rreadE l = (-a', 0, 0)) := Lib.hid (E2.out.trans (by simp [tailE, hf]))
                      clear E2
                      go_wp2_with fail
                      refine (CM.out _).mono ?_
                      rintro e w5 ⟨rfl, rfl⟩
                      simp only [if_true]
                      go_wp2_with fail
                      go_ret3
                      exact ⟨by rw [E3.out]; rfl, below_drewN HV.out _⟩
                  · obtain ⟨rfl, rfl⟩ := hlit
                    have CM := Lib.hid (most_any 1 (by omega))
                    by_cases hf : 180000000 < a'
                    · have E3 : Hid (rreadE l = (0, 0, 7)) := Lib.hid (E2.out.trans (by simp [tailE, hf]))
                      clear E2
                      go_wp2_with fail
                      refine (CM.out _).mono ?_
                      rintro e w5 ⟨rfl, rfl⟩
                      simp only [if_false, show ¬ ((1 : Int) = 0) from by decide]
                      go_wp2_with fail
                      go_ret3
                      exact ⟨by rw [E3.out]; rfl, below_drewN HV.out _⟩
                    · have E3 : Hid (rreadE l = (a', 1, 0)) := Lib.hid (E2.out.trans (by simp [tailE, hf]))
                      clear E2
                      go_wp2_with fail
                      refine (CM.out _).mono ?_
                      rintro e w5 ⟨rfl, rfl⟩
                      simp only [if_false, show ¬ ((1 : Int) = 0) from by decide]
                      go_wp2_with fail
                      go_ret3
                      exact ⟨by rw [E3.out]; rfl, below_drewN HV.out _⟩
                  · obtain ⟨rfl, rfl⟩ := hlit
                    have CM := Lib.hid (most_any 1 (by omega))
                    by_cases hf : 180000000 < a'
                    · have E3 : Hid (rreadE l = (0, 0, 7)) := Lib.hid (E2.out.trans (by simp [tailE, hf]))
                      clear E2
                      go_wp2_with fail
                      refine (CM.out _).mono ?_
                      rintro e w5 ⟨rfl, rfl⟩
                      simp only [if_false, show ¬ ((1 : Int) = 0) from by decide]
                      go_wp2_with fail
                      go_ret3
                      exact ⟨by rw [E3.out]; rfl, below_drewN HV.out _⟩
                    · have E3 : Hid (rreadE l = (-a', 1, 0)) := Lib.hid (E2.out.trans (by simp [tailE, hf]))
                      clear E2
                      go_wp2_with fail
                      refine (CM.out _).mono ?_
                      rintro e w5 ⟨rfl, rfl⟩
                      simp only [if_false, show ¬ ((1 : Int) = 0) from by decide]
                      go_wp2_with fail
                      go_ret3
                      exact ⟨by rw [E3.out]; rfl, below_drewN HV.out _⟩
                  · have g1 : ¬ ((c2 == 78) = true ∧ r2.isEmpty = true) := fun h => h1 ⟨by simpa using h.1, by simpa using h.2⟩
                    have g2 : ¬ ((c2 == 83) = true ∧ r2.isEmpty = true) := fun h => h2 ⟨by simpa using h.1, by simpa using h.2⟩
                    have g3 : ¬ ((c2 == 69) = true ∧ r2.isEmpty = true) := fun h => h3 ⟨by simpa using h.1, by simpa using h.2⟩
                    have g4 : ¬ ((c2 == 87) = true ∧ r2.isEmpty = true) := fun h => h4 ⟨by simpa using h.1, by simpa using h.2⟩
                    have E3 : Hid (rreadE l = (0, 0, 6)) := Lib.hid (E2.out.trans (by
                      simp only [tailE, List.cons.injEq]
                      rw [if_neg h1, if_neg h2, if_neg h3, if_neg h4]))
                    have f1 : ((c2 == 78) && r2.isEmpty) = false := by rw [Bool.eq_false_iff]; intro h; exact g1 (by simpa using h)
                    have f2 : ((c2 == 83) && r2.isEmpty) = false := by rw [Bool.eq_false_iff]; intro h; exact g2 (by simpa using h)
                    have f3 : ((c2 == 69) && r2.isEmpty) = false := by rw [Bool.eq_false_iff]; intro h; exact g3 (by simpa using h)
                    have f4 : ((c2 == 87) && r2.isEmpty) = false := by rw [Bool.eq_false_iff]; intro h; exact g4 (by simpa using h)
                    clear E2 h1 h2 h3 h4
                    go_wp2_with fail
                    go_ret3
                    exact ⟨by rw [E3.out]; rfl, below_drewN HV.out _⟩
          · rcases letters c r with hlit | hlit | hlit | hlit | ⟨h1, h2, h3, h4⟩
            · obtain ⟨rfl, rfl⟩ := hlit
              have hc1 : ((((⟨[78].toArray⟩ : ByteArray)[0]'(by decide)).toNat : Int) == 46) = false := rfl
              have CM := Lib.hid (most_any 0 (by omega))
              by_cases hf : 90000000 < a
              · have E2 : Hid (rreadE l = (0, 0, 7)) := Lib.hid (E.out.trans (by simp [restE, tailE, hf]))
                clear E
                go_wp2_with fail
                refine (CM.out _).mono ?_
                rintro e w5 ⟨rfl, rfl⟩
                simp only [if_true]
                go_wp2_with fail
                go_ret3
                exact ⟨by rw [E2.out]; rfl, below_drewN (Below.refl _ _) _⟩
              · have E2 : Hid (rreadE l = (a, 0, 0)) := Lib.hid (E.out.trans (by simp [restE, tailE, hf]))
                clear E
                go_wp2_with fail
                refine (CM.out _).mono ?_
                rintro e w5 ⟨rfl, rfl⟩
                simp only [if_true]
                go_wp2_with fail
                go_ret3
                exact ⟨by rw [E2.out]; rfl, below_drewN (Below.refl _ _) _⟩
            · obtain ⟨rfl, rfl⟩ := hlit
              have hc1 : ((((⟨[83].toArray⟩ : ByteArray)[0]'(by decide)).toNat : Int) == 46) = false := rfl
              have CM := Lib.hid (most_any 0 (by omega))
              by_cases hf : 90000000 < a
              · have E2 : Hid (rreadE l = (0, 0, 7)) := Lib.hid (E.out.trans (by simp [restE, tailE, hf]))
                clear E
                go_wp2_with fail
                refine (CM.out _).mono ?_
                rintro e w5 ⟨rfl, rfl⟩
                simp only [if_true]
                go_wp2_with fail
                go_ret3
                exact ⟨by rw [E2.out]; rfl, below_drewN (Below.refl _ _) _⟩
              · have E2 : Hid (rreadE l = (-a, 0, 0)) := Lib.hid (E.out.trans (by simp [restE, tailE, hf]))
                clear E
                go_wp2_with fail
                refine (CM.out _).mono ?_
                rintro e w5 ⟨rfl, rfl⟩
                simp only [if_true]
                go_wp2_with fail
                go_ret3
                exact ⟨by rw [E2.out]; rfl, below_drewN (Below.refl _ _) _⟩
            · obtain ⟨rfl, rfl⟩ := hlit
              have hc1 : ((((⟨[69].toArray⟩ : ByteArray)[0]'(by decide)).toNat : Int) == 46) = false := rfl
              have CM := Lib.hid (most_any 1 (by omega))
              by_cases hf : 180000000 < a
              · have E2 : Hid (rreadE l = (0, 0, 7)) := Lib.hid (E.out.trans (by simp [restE, tailE, hf]))
                clear E
                go_wp2_with fail
                refine (CM.out _).mono ?_
                rintro e w5 ⟨rfl, rfl⟩
                simp only [if_false, show ¬ ((1 : Int) = 0) from by decide]
                go_wp2_with fail
                go_ret3
                exact ⟨by rw [E2.out]; rfl, below_drewN (Below.refl _ _) _⟩
              · have E2 : Hid (rreadE l = (a, 1, 0)) := Lib.hid (E.out.trans (by simp [restE, tailE, hf]))
                clear E
                go_wp2_with fail
                refine (CM.out _).mono ?_
                rintro e w5 ⟨rfl, rfl⟩
                simp only [if_false, show ¬ ((1 : Int) = 0) from by decide]
                go_wp2_with fail
                go_ret3
                exact ⟨by rw [E2.out]; rfl, below_drewN (Below.refl _ _) _⟩
            · obtain ⟨rfl, rfl⟩ := hlit
              have hc1 : ((((⟨[87].toArray⟩ : ByteArray)[0]'(by decide)).toNat : Int) == 46) = false := rfl
              have CM := Lib.hid (most_any 1 (by omega))
              by_cases hf : 180000000 < a
              · have E2 : Hid (rreadE l = (0, 0, 7)) := Lib.hid (E.out.trans (by simp [restE, tailE, hf]))
                clear E
                go_wp2_with fail
                refine (CM.out _).mono ?_
                rintro e w5 ⟨rfl, rfl⟩
                simp only [if_false, show ¬ ((1 : Int) = 0) from by decide]
                go_wp2_with fail
                go_ret3
                exact ⟨by rw [E2.out]; rfl, below_drewN (Below.refl _ _) _⟩
              · have E2 : Hid (rreadE l = (-a, 1, 0)) := Lib.hid (E.out.trans (by simp [restE, tailE, hf]))
                clear E
                go_wp2_with fail
                refine (CM.out _).mono ?_
                rintro e w5 ⟨rfl, rfl⟩
                simp only [if_false, show ¬ ((1 : Int) = 0) from by decide]
                go_wp2_with fail
                go_ret3
                exact ⟨by rw [E2.out]; rfl, below_drewN (Below.refl _ _) _⟩
            · have hc1 : ((((⟨(c :: r).toArray⟩ : ByteArray)[0]'(by show 0 < (c :: r).length; simp)).toNat : Int) == 46) = false := by
                rw [beq_eq_false_iff_ne]
                intro h
                have h' : ((c.toNat : Nat) : Int) = 46 := h
                exact hc (UInt8.toNat_inj.1 (by have : c.toNat = 46 := by omega
                                                rw [this]; rfl))
              have g1 : ¬ ((c == 78) = true ∧ r.isEmpty = true) := fun h => h1 ⟨by simpa using h.1, by simpa using h.2⟩
              have g2 : ¬ ((c == 83) = true ∧ r.isEmpty = true) := fun h => h2 ⟨by simpa using h.1, by simpa using h.2⟩
              have g3 : ¬ ((c == 69) = true ∧ r.isEmpty = true) := fun h => h3 ⟨by simpa using h.1, by simpa using h.2⟩
              have g4 : ¬ ((c == 87) = true ∧ r.isEmpty = true) := fun h => h4 ⟨by simpa using h.1, by simpa using h.2⟩
              have E2 : Hid (rreadE l = (0, 0, 6)) := Lib.hid (E.out.trans (by
                simp only [restE, if_neg hc, tailE, List.cons.injEq]
                rw [if_neg h1, if_neg h2, if_neg h3, if_neg h4]))
              have f1 : ((c == 78) && r.isEmpty) = false := by rw [Bool.eq_false_iff]; intro h; exact g1 (by simpa using h)
              have f2 : ((c == 83) && r.isEmpty) = false := by rw [Bool.eq_false_iff]; intro h; exact g2 (by simpa using h)
              have f3 : ((c == 69) && r.isEmpty) = false := by rw [Bool.eq_false_iff]; intro h; exact g3 (by simpa using h)
              have f4 : ((c == 87) && r.isEmpty) = false := by rw [Bool.eq_false_iff]; intro h; exact g4 (by simpa using h)
              clear E h1 h2 h3 h4 hc
              go_wp2_with fail
              go_ret3
              exact ⟨by rw [E2.out]; rfl, below_drewN (Below.refl _ _) _⟩
end Go.Proofs.YtnjedigjabijcaaDoor
