import Derived.Test.YtnjedigjabijcaaDoorRefWrite2
import Derived.Test.YtnjedigjabijcaaDoorWrite
import Derived.Deep.DeepCutAuto
namespace Go.Proofs.YtnjedigjabijcaaDoor
open Go Go.RowKit

/-- The loop that strikes zeros. -/
def ZRel (l : List UInt8) (w : World) (s : Value) (wr : World) : Prop :=
  ∃ k : Nat, k ≤ l.length ∧ s = .string ⟨(l.take k).toArray⟩ ∧ (∀ (j : Nat) b, k ≤ j → l[j]? = some b → b = 48) ∧ Below w.heap.size w wr

theorem at_byte {F : List UInt8} {m : Nat} {S : ByteArray} (hS : (⟨(F.take (m + 1)).toArray⟩ : ByteArray) = S) (hk : m + 1 ≤ F.length) (hlt : m < S.size) : F[m]? = some S[m] := by
  subst hS
  rw [List.getElem?_eq_getElem (by omega)]
  congr 1
  show F[m] = ((F.take (m + 1)).toArray)[m]
  simp [List.getElem_take]
theorem cut_last {F : List UInt8} {m : Nat} {S : ByteArray} (hS : (⟨(F.take (m + 1)).toArray⟩ : ByteArray) = S) : S.extract 0 m = ⟨(F.take m).toArray⟩ := by
  rw [← hS, Lib.extract_mk, List.drop_zero, List.take_take]
  congr 3
  omega
theorem trim_here {F : List UInt8} {m : Nat} {S : ByteArray} (hS : (⟨(F.take (m + 1)).toArray⟩ : ByteArray) = S) (hk : m + 1 ≤ F.length) (hlt : m < S.size) (hz : ∀ (j : Nat) (b : UInt8), m + 1 ≤ j → F[j]? = some b → b = 48)
    (hb : ((S[m].toNat : Int) == 48) = false) : Lib.trimRightB F 48 = F.take (m + 1) := by
  refine Lib.trimRightB_take F 48 (m + 1) hk hz ?_
  intro b _ h
  rw [Nat.add_sub_cancel, at_byte hS hk hlt] at h
  rintro rfl
  have e : S[m] = 48 := Option.some.inj h
  rw [e] at hb
  exact absurd hb (by decide)
theorem zeros_next {F : List UInt8} {m : Nat} {S : ByteArray} (hS : (⟨(F.take (m + 1)).toArray⟩ : ByteArray) = S) (hk : m + 1 ≤ F.length) (hlt : m < S.size) (hz : ∀ (j : Nat) (b : UInt8), m + 1 ≤ j → F[j]? = some b → b = 48)
    (hb : ((S[m].toNat : Int) == 48) = true) : ∀ (j : Nat) (b : UInt8), m ≤ j → F[j]? = some b → b = 48 := by
  intro j b hj h
  rcases Nat.lt_or_ge m j with g | g
  · exact hz j b g h
  · obtain rfl : j = m := by omega
    rw [at_byte hS hk hlt] at h
    have e := Option.some.inj h
    rw [← e]
    have h48 : S[j].toNat = 48 := by have := eq_of_beq hb; omega
    exact UInt8.toNat_inj.1 h48
theorem no_more (l : List UInt8) : ∀ (j : Nat) (b : UInt8), l.length ≤ j → l[j]? = some b → b = 48 := by
  intro j b hj hb
  rw [List.getElem?_eq_none hj] at hb
  cases hb
theorem dec_six (m j : Nat) (hm : m < 1000000) (h : DecPost m 6 j) : j = 6 := by
  obtain ⟨h1, _, h3⟩ := h
  rcases h3 with h3 | h3
  · exact h3
  · rcases Nat.lt_or_ge j 7 with g | g
    · omega
    · have p : 10 ^ 6 ≤ 10 ^ (j - 1) := Nat.pow_le_pow_right (by omega) (by omega)
      rw [Nat.div_eq_of_lt (by omega)] at h3
      omega
theorem degs_len (u : Nat) (h : u ≤ 180) : (Lib.decDigits u).length ≤ 50 := by
  have := Lib.itoa_length_le (u : Int) (by omega) (by omega)
  rw [show Lib.itoa (u : Int) = Lib.decDigits u by unfold Lib.itoa; rw [if_neg (by omega)]; rfl] at this
  omega
theorem deg_any (n : Nat) (h : n ≤ 180000000) (w : World) :
    Calls Tryd.prog 73 #[.int .i64 ((n : Int) / 1000000), .int .i64 1] w fun e w' => e = .returned (.string ⟨(Lib.decDigits (n / 1000000)).toArray⟩) ∧ Below w.heap.size w w' := by
  rw [show (n : Int) / 1000000 = ((n / 1000000 : Nat) : Int) by omega]
  refine (decimal_any (n / 1000000) 1 (by omega) (by omega) (by omega) w).mono ?_
  rintro e w' ⟨⟨j, rfl, hp⟩, hB⟩
  rw [lowD_dec j _ hp]
  exact ⟨rfl, hB⟩
theorem rest_any (n : Nat) (w : World) :
    Calls Tryd.prog 73 #[.int .i64 ((n : Int) % 1000000), .int .i64 6] w fun e w' => e = .returned (.string ⟨(lowD (n % 1000000) 6).toArray⟩) ∧ Below w.heap.size w w' := by
  rw [show (n : Int) % 1000000 = ((n % 1000000 : Nat) : Int) by omega]
  refine (decimal_any (n % 1000000) 6 (by omega) (by omega) (by omega) w).mono ?_
  rintro e w' ⟨⟨j, rfl, hp⟩, hB⟩
  rw [dec_six _ j (by omega) hp]
  exact ⟨rfl, hB⟩

set_option maxRecDepth 100000 in
set_option maxHeartbeats 2000000 in
theorem rwrite_pos0 (n : Nat) (h : n ≤ 90000000) (w : World) :
    Calls Tryd.prog 40 #[.int .i64 (n : Int), .int .i64 0] w fun e w' => e = .returned (textV (sizeL (n : Int) ++ [78]) 0) ∧ Below w.heap.size w w' := by
  have CM := Lib.hid (most_any 0 (by omega))
  have CD := Lib.hid (fun V => deg_any n (by omega) V)
  have CF := Lib.hid (fun V => rest_any n V)
  have SP := Lib.hid (size_parts n (by omega))
  have LD := Lib.hid (degs_len (n / 1000000) (by omega))
  have LF := Lib.hid (lowD_len (n % 1000000) 6)
  generalize Lib.decDigits (n / 1000000) = D at *
  generalize lowD (n % 1000000) 6 = F at *
  go_enter Tryd.func40, Tryd.ntmps40
  go_wp2_with fail
  refine (CM.out _).mono ?_
  rintro e w' ⟨rfl, rfl⟩
  have wn : IntKind.i64.wrap (-90000000) = -90000000 := by decide
  have n1 : ¬ (n : Int) < -90000000 := by omega
  have n2 : ¬ (90000000 : Int) < (n : Int) := by omega
  go_wp2_with fail
  refine (CM.out _).mono ?_
  rintro e w' ⟨rfl, rfl⟩
  go_wp2_with fail
  refine (CD.out _).mono ?_
  rintro e w1 ⟨rfl, hB1⟩
  have K1 := Lib.hid (below_next (alloc_below w _) hB1)
  clear hB1 n1 n2 wn CM CD
  go_wp2_with fail
  refine (CF.out _).mono ?_
  rintro e w2 ⟨rfl, hB2⟩
  have K2 := Lib.hid (below_next K1.out hB2)
  clear hB2 K1 CF
  go_wp2_with fail
  go_loopw [9] (fun s wr => ZRel F w s wr) (fun s _ => match s with | .string b => b.size | _ => 0)
  case atStart => exact ⟨F.length, Nat.le_refl _, by rw [List.take_of_length_le (Nat.le_refl _)], no_more F, K2.out⟩
  case round =>
    obtain ⟨k, hk, rfl, hz, hB⟩ := hrel
    have HZ := Lib.hid hz
    have lf := LF.out
    clear hz
    rcases Nat.eq_zero_or_pos k with k0 | k0
    · subst k0
      have e0 := Lib.trimRightB_take F 48 0 (Nat.zero_le _) HZ.out (fun b h => absurd h (by omega))
      have hz0 : (⟨(F.take 0).toArray⟩ : ByteArray) = ⟨#[]⟩ := rfl
      rw [e0, List.take_zero, if_pos rfl] at SP
      have f1 : ¬ 9223372036854775807 < D.length + 1 := by have := LD.out; omega
      go_wp2_with fail
      · go_ret2
        exact ⟨by rw [SP.out]; exact ret_text (append_bytes D [78]), hB⟩
    · have hs : (⟨(F.take k).toArray⟩ : ByteArray).size = k := by rw [Lib.size_mk, List.length_take]; omega
      generalize hS : (⟨(F.take k).toArray⟩ : ByteArray) = S at *
      obtain ⟨m, rfl⟩ : ∃ m, k = m + 1 := ⟨k - 1, by omega⟩
      have hlt : m < S.size := by omega
      have hi : (S.size : Int) - 1 = (m : Int) := by omega
      have f1 : ¬ 9223372036854775807 < D.length + 1 := by have := LD.out; omega
      have f2 : ¬ 9223372036854775807 < D.length + 1 + S.size := by have := LD.out; omega
      have f3 : ¬ 9223372036854775807 < D.length + 1 + S.size + 1 := by have := LD.out; omega
      have hw : IntKind.i64.wrap ((S.size : Int) - 1) = (m : Int) := by rw [IntWalk.i64_in _ (by omega)]; exact hi
      have HS := Lib.hid hS
      have HL := Lib.hid hlt
      go_wp2_with fail
      · rename_i hb
        go_roundw
        case rel => exact ⟨m, by omega, by rw [cut_last HS.out], zeros_next HS.out hk HL.out HZ.out hb, hB⟩
        case measure =>
          have e := cut_last HS.out
          rw [e]
          simp [Lib.size_mk]
          omega
      · rename_i hb he
        have e := trim_here HS.out hk HL.out HZ.out hb
        go_ret2
        refine ⟨?_, hB⟩
        have hne : ¬ Lib.trimRightB F 48 = [] := by
          rw [e]; intro g; have := congrArg List.length g; rw [List.length_take] at this; simp only [List.length_nil] at this; omega
        have key : (⟨D.toArray⟩ : ByteArray) ++ ⟨[46].toArray⟩ ++ S ++ ⟨[78].toArray⟩ = ⟨(D ++ [46] ++ F.take (m + 1) ++ [78]).toArray⟩ := by
          rw [← HS.out, append_bytes, append_bytes, append_bytes]
        rw [SP.out, if_neg hne, e]
        exact ret_text key
      · rename_i hb he
        exfalso
        rw [ByteArray.toList_eq, ← HS.out] at he
        have l1 : ((F.take (m + 1))).length = m + 1 := by rw [List.length_take]; omega
        cases hF : F.take (m + 1) with
        | nil => rw [hF] at l1; simp at l1
        | cons x y => rw [hF] at he; simp at he
set_option maxRecDepth 100000 in
set_option maxHeartbeats 2000000 in
theorem rwrite_neg0 (n : Nat) (h0 : 1 ≤ n) (h : n ≤ 90000000) (w : World) :
    Calls Tryd.prog 40 #[.int .i64 (-(n : Int)), .int .i64 0] w fun e w' => e = .returned (textV (sizeL (n : Int) ++ [83]) 0) ∧ Below w.heap.size w w' := by
  have CM := Lib.hid (most_any 0 (by omega))
  have CD := Lib.hid (fun V => deg_any n (by omega) V)
  have CF := Lib.hid (fun V => rest_any n V)
  have SP := Lib.hid (size_parts n (by omega))
  have LD := Lib.hid (degs_len (n / 1000000) (by omega))
  have LF := Lib.hid (lowD_len (n % 1000000) 6)
  generalize Lib.decDigits (n / 1000000) = D at *
  generalize lowD (n % 1000000) 6 = F at *
  go_enter Tryd.func40, Tryd.ntmps40
  go_wp2_with fail
  refine (CM.out _).mono ?_
  rintro e w' ⟨rfl, rfl⟩
  have wn : IntKind.i64.wrap (-90000000) = -90000000 := by decide
  have hneg : -(n : Int) < 0 := by omega
  have wneg : IntKind.i64.wrap (- -(n : Int)) = (n : Int) := by rw [Int.neg_neg]; exact IntWalk.i64_in _ (by omega)
  have n1 : ¬ -(n : Int) < -90000000 := by omega
  have n2 : ¬ (90000000 : Int) < -(n : Int) := by omega
  go_wp2_with fail
  refine (CM.out _).mono ?_
  rintro e w' ⟨rfl, rfl⟩
  go_wp2_with fail
  refine (CD.out _).mono ?_
  rintro e w1 ⟨rfl, hB1⟩
  have K1 := Lib.hid (below_next (alloc_below w _) hB1)
  clear hB1 n1 n2 wn CM CD
  go_wp2_with fail
  refine (CF.out _).mono ?_
  rintro e w2 ⟨rfl, hB2⟩
  have K2 := Lib.hid (below_next K1.out hB2)
  clear hB2 K1 CF
  go_wp2_with fail
  go_loopw [9] (fun s wr => ZRel F w s wr) (fun s _ => match s with | .string b => b.size | _ => 0)
  case atStart => exact ⟨F.length, Nat.le_refl _, by rw [List.take_of_length_le (Nat.le_refl _)], no_more F, K2.out⟩
  case round =>
    obtain ⟨k, hk, rfl, hz, hB⟩ := hrel
    have HZ := Lib.hid hz
    have lf := LF.out
    clear hz
    rcases Nat.eq_zero_or_pos k with k0 | k0
    · subst k0
      have e0 := Lib.trimRightB_take F 48 0 (Nat.zero_le _) HZ.out (fun b h => absurd h (by omega))
      have hz0 : (⟨(F.take 0).toArray⟩ : ByteArray) = ⟨#[]⟩ := rfl
      rw [e0, List.take_zero, if_pos rfl] at SP
      have f1 : ¬ 9223372036854775807 < D.length + 1 := by have := LD.out; omega
      go_wp2_with fail
      · go_ret2
        exact ⟨by rw [SP.out]; exact ret_text (append_bytes D [83]), hB⟩
    · have hs : (⟨(F.take k).toArray⟩ : ByteArray).size = k := by rw [Lib.size_mk, List.length_take]; omega
      generalize hS : (⟨(F.take k).toArray⟩ : ByteArray) = S at *
      obtain ⟨m, rfl⟩ : ∃ m, k = m + 1 := ⟨k - 1, by omega⟩
      have hlt : m < S.size := by omega
      have hi : (S.size : Int) - 1 = (m : Int) := by omega
      have f1 : ¬ 9223372036854775807 < D.length + 1 := by have := LD.out; omega
      have f2 : ¬ 9223372036854775807 < D.length + 1 + S.size := by have := LD.out; omega
      have f3 : ¬ 9223372036854775807 < D.length + 1 + S.size + 1 := by have := LD.out; omega
      have hw : IntKind.i64.wrap ((S.size : Int) - 1) = (m : Int) := by rw [IntWalk.i64_in _ (by omega)]; exact hi
      have HS := Lib.hid hS
      have HL := Lib.hid hlt
      go_wp2_with fail
      · rename_i hb
        go_roundw
        case rel => exact ⟨m, by omega, by rw [cut_last HS.out], zeros_next HS.out hk HL.out HZ.out hb, hB⟩
        case measure =>
          have e := cut_last HS.out
          rw [e]
          simp [Lib.size_mk]
          omega
      · rename_i hb he
        have e := trim_here HS.out hk HL.out HZ.out hb
        go_ret2
        refine ⟨?_, hB⟩
        have hne : ¬ Lib.trimRightB F 48 = [] := by
          rw [e]; intro g; have := congrArg List.length g; rw [List.length_take] at this; simp only [List.length_nil] at this; omega
        have key : (⟨D.toArray⟩ : ByteArray) ++ ⟨[46].toArray⟩ ++ S ++ ⟨[83].toArray⟩ = ⟨(D ++ [46] ++ F.take (m + 1) ++ [83]).toArray⟩ := by
          rw [← HS.out, append_bytes, append_bytes, append_bytes]
        rw [SP.out, if_neg hne, e]
        exact ret_text key
      · rename_i hb he
        exfalso
        rw [ByteArray.toList_eq, ← HS.out] at he
        have l1 : ((F.take (m + 1))).length = m + 1 := by rw [List.length_take]; omega
        cases hF : F.take (m + 1) with
        | nil => rw [hF] at l1; simp at l1
        | cons x y => rw [hF] at he; simp at he
set_option maxRecDepth 100000 in
set_option maxHeartbeats 2000000 in
theorem rwrite_pos1 (n : Nat) (h : n ≤ 180000000) (w : World) :
    Calls Tryd.prog 40 #[.int .i64 (n : Int), .int .i64 1] w fun e w' => e = .returned (textV (sizeL (n : Int) ++ [69]) 0) ∧ Below w.heap.size w w' := by
  have CM := Lib.hid (most_any 1 (by omega))
  have CD := Lib.hid (fun V => deg_any n (by omega) V)
  have CF := Lib.hid (fun V => rest_any n V)
  have SP := Lib.hid (size_parts n (by omega))
  have LD := Lib.hid (degs_len (n / 1000000) (by omega))
  have LF := Lib.hid (lowD_len (n % 1000000) 6)
  generalize Lib.decDigits (n / 1000000) = D at *
  generalize lowD (n % 1000000) 6 = F at *
  go_enter Tryd.func40, Tryd.ntmps40
  go_wp2_with fail
  refine (CM.out _).mono ?_
  rintro e w' ⟨rfl, rfl⟩
  have wn : IntKind.i64.wrap (-180000000) = -180000000 := by decide
  have n1 : ¬ (n : Int) < -180000000 := by omega
  have n2 : ¬ (180000000 : Int) < (n : Int) := by omega
  go_wp2_with fail
  refine (CM.out _).mono ?_
  rintro e w' ⟨rfl, rfl⟩
  go_wp2_with fail
  refine (CD.out _).mono ?_
  rintro e w1 ⟨rfl, hB1⟩
  have K1 := Lib.hid (below_next (alloc_below w _) hB1)
  clear hB1 n1 n2 wn CM CD
  go_wp2_with fail
  refine (CF.out _).mono ?_
  rintro e w2 ⟨rfl, hB2⟩
  have K2 := Lib.hid (below_next K1.out hB2)
  clear hB2 K1 CF
  go_wp2_with fail
  go_loopw [9] (fun s wr => ZRel F w s wr) (fun s _ => match s with | .string b => b.size | _ => 0)
  case atStart => exact ⟨F.length, Nat.le_refl _, by rw [List.take_of_length_le (Nat.le_refl _)], no_more F, K2.out⟩
  case round =>
    obtain ⟨k, hk, rfl, hz, hB⟩ := hrel
    have HZ := Lib.hid hz
    have lf := LF.out
    clear hz
    rcases Nat.eq_zero_or_pos k with k0 | k0
    · subst k0
      have e0 := Lib.trimRightB_take F 48 0 (Nat.zero_le _) HZ.out (fun b h => absurd h (by omega))
      have hz0 : (⟨(F.take 0).toArray⟩ : ByteArray) = ⟨#[]⟩ := rfl
      rw [e0, List.take_zero, if_pos rfl] at SP
      have f1 : ¬ 9223372036854775807 < D.length + 1 := by have := LD.out; omega
      go_wp2_with fail
      · go_ret2
        exact ⟨by rw [SP.out]; exact ret_text (append_bytes D [69]), hB⟩
    · have hs : (⟨(F.take k).toArray⟩ : ByteArray).size = k := by rw [Lib.size_mk, List.length_take]; omega
      generalize hS : (⟨(F.take k).toArray⟩ : ByteArray) = S at *
      obtain ⟨m, rfl⟩ : ∃ m, k = m + 1 := ⟨k - 1, by omega⟩
      have hlt : m < S.size := by omega
      have hi : (S.size : Int) - 1 = (m : Int) := by omega
      have f1 : ¬ 9223372036854775807 < D.length + 1 := by have := LD.out; omega
      have f2 : ¬ 9223372036854775807 < D.length + 1 + S.size := by have := LD.out; omega
      have f3 : ¬ 9223372036854775807 < D.length + 1 + S.size + 1 := by have := LD.out; omega
      have hw : IntKind.i64.wrap ((S.size : Int) - 1) = (m : Int) := by rw [IntWalk.i64_in _ (by omega)]; exact hi
      have HS := Lib.hid hS
      have HL := Lib.hid hlt
      go_wp2_with fail
      · rename_i hb
        go_roundw
        case rel => exact ⟨m, by omega, by rw [cut_last HS.out], zeros_next HS.out hk HL.out HZ.out hb, hB⟩
        case measure =>
          have e := cut_last HS.out
          rw [e]
          simp [Lib.size_mk]
          omega
      · rename_i hb he
        have e := trim_here HS.out hk HL.out HZ.out hb
        go_ret2
        refine ⟨?_, hB⟩
        have hne : ¬ Lib.trimRightB F 48 = [] := by
          rw [e]; intro g; have := congrArg List.length g; rw [List.length_take] at this; simp only [List.length_nil] at this; omega
        have key : (⟨D.toArray⟩ : ByteArray) ++ ⟨[46].toArray⟩ ++ S ++ ⟨[69].toArray⟩ = ⟨(D ++ [46] ++ F.take (m + 1) ++ [69]).toArray⟩ := by
          rw [← HS.out, append_bytes, append_bytes, append_bytes]
        rw [SP.out, if_neg hne, e]
        exact ret_text key
      · rename_i hb he
        exfalso
        rw [ByteArray.toList_eq, ← HS.out] at he
        have l1 : ((F.take (m + 1))).length = m + 1 := by rw [List.length_take]; omega
        cases hF : F.take (m + 1) with
        | nil => rw [hF] at l1; simp at l1
        | cons x y => rw [hF] at he; simp at he
set_option maxRecDepth 100000 in
set_option maxHeartbeats 2000000 in
theorem rwrite_neg1 (n : Nat) (h0 : 1 ≤ n) (h : n ≤ 180000000) (w : World) :
    Calls Tryd.prog 40 #[.int .i64 (-(n : Int)), .int .i64 1] w fun e w' => e = .returned (textV (sizeL (n : Int) ++ [87]) 0) ∧ Below w.heap.size w w' := by
  have CM := Lib.hid (most_any 1 (by omega))
  have CD := Lib.hid (fun V => deg_any n (by omega) V)
  have CF := Lib.hid (fun V => rest_any n V)
  have SP := Lib.hid (size_parts n (by omega))
  have LD := Lib.hid (degs_len (n / 1000000) (by omega))
  have LF := Lib.hid (lowD_len (n % 1000000) 6)
  generalize Lib.decDigits (n / 1000000) = D at *
  generalize lowD (n % 1000000) 6 = F at *
  go_enter Tryd.func40, Tryd.ntmps40
  go_wp2_with fail
  refine (CM.out _).mono ?_
  rintro e w' ⟨rfl, rfl⟩
  have wn : IntKind.i64.wrap (-180000000) = -180000000 := by decide
  have hneg : -(n : Int) < 0 := by omega
  have wneg : IntKind.i64.wrap (- -(n : Int)) = (n : Int) := by rw [Int.neg_neg]; exact IntWalk.i64_in _ (by omega)
  have n1 : ¬ -(n : Int) < -180000000 := by omega
  have n2 : ¬ (180000000 : Int) < -(n : Int) := by omega
  go_wp2_with fail
  refine (CM.out _).mono ?_
  rintro e w' ⟨rfl, rfl⟩
  go_wp2_with fail
  refine (CD.out _).mono ?_
  rintro e w1 ⟨rfl, hB1⟩
  have K1 := Lib.hid (below_next (alloc_below w _) hB1)
  clear hB1 n1 n2 wn CM CD
  go_wp2_with fail
  refine (CF.out _).mono ?_
  rintro e w2 ⟨rfl, hB2⟩
  have K2 := Lib.hid (below_next K1.out hB2)
  clear hB2 K1 CF
  go_wp2_with fail
  go_loopw [9] (fun s wr => ZRel F w s wr) (fun s _ => match s with | .string b => b.size | _ => 0)
  case atStart => exact ⟨F.length, Nat.le_refl _, by rw [List.take_of_length_le (Nat.le_refl _)], no_more F, K2.out⟩
  case round =>
    obtain ⟨k, hk, rfl, hz, hB⟩ := hrel
    have HZ := Lib.hid hz
    have lf := LF.out
    clear hz
    rcases Nat.eq_zero_or_pos k with k0 | k0
    · subst k0
      have e0 := Lib.trimRightB_take F 48 0 (Nat.zero_le _) HZ.out (fun b h => absurd h (by omega))
      have hz0 : (⟨(F.take 0).toArray⟩ : ByteArray) = ⟨#[]⟩ := rfl
      rw [e0, List.take_zero, if_pos rfl] at SP
      have f1 : ¬ 9223372036854775807 < D.length + 1 := by have := LD.out; omega
      go_wp2_with fail
      · go_ret2
        exact ⟨by rw [SP.out]; exact ret_text (append_bytes D [87]), hB⟩
    · have hs : (⟨(F.take k).toArray⟩ : ByteArray).size = k := by rw [Lib.size_mk, List.length_take]; omega
      generalize hS : (⟨(F.take k).toArray⟩ : ByteArray) = S at *
      obtain ⟨m, rfl⟩ : ∃ m, k = m + 1 := ⟨k - 1, by omega⟩
      have hlt : m < S.size := by omega
      have hi : (S.size : Int) - 1 = (m : Int) := by omega
      have f1 : ¬ 9223372036854775807 < D.length + 1 := by have := LD.out; omega
      have f2 : ¬ 9223372036854775807 < D.length + 1 + S.size := by have := LD.out; omega
      have f3 : ¬ 9223372036854775807 < D.length + 1 + S.size + 1 := by have := LD.out; omega
      have hw : IntKind.i64.wrap ((S.size : Int) - 1) = (m : Int) := by rw [IntWalk.i64_in _ (by omega)]; exact hi
      have HS := Lib.hid hS
      have HL := Lib.hid hlt
      go_wp2_with fail
      · rename_i hb
        go_roundw
        case rel => exact ⟨m, by omega, by rw [cut_last HS.out], zeros_next HS.out hk HL.out HZ.out hb, hB⟩
        case measure =>
          have e := cut_last HS.out
          rw [e]
          simp [Lib.size_mk]
          omega
      · rename_i hb he
        have e := trim_here HS.out hk HL.out HZ.out hb
        go_ret2
        refine ⟨?_, hB⟩
        have hne : ¬ Lib.trimRightB F 48 = [] := by
          rw [e]; intro g; have := congrArg List.length g; rw [List.length_take] at this; simp only [List.length_nil] at this; omega
        have key : (⟨D.toArray⟩ : ByteArray) ++ ⟨[46].toArray⟩ ++ S ++ ⟨[87].toArray⟩ = ⟨(D ++ [46] ++ F.take (m + 1) ++ [87]).toArray⟩ := by
          rw [← HS.out, append_bytes, append_bytes, append_bytes]
        rw [SP.out, if_neg hne, e]
        exact ret_text key
      · rename_i hb he
        exfalso
        rw [ByteArray.toList_eq, ← HS.out] at he
        have l1 : ((F.take (m + 1))).length = m + 1 := by rw [List.length_take]; omega
        cases hF : F.take (m + 1) with
        | nil => rw [hF] at l1; simp at l1
        | cons x y => rw [hF] at he; simp at he
end Go.Proofs.YtnjedigjabijcaaDoor
