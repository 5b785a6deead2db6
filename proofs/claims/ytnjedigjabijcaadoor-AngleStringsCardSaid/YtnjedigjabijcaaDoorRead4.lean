import Derived.Test.YtnjedigjabijcaaDoorRead3
import Derived.Test.YtnjedigjabijcaaDoorEncl
namespace Go.Proofs.YtnjedigjabijcaaDoor
open Go Go.RowKit

def readV (r : Int × Int × Int) : Value := .tuple #[.int .i64 r.1, .int .i64 r.2.1, .int .i64 r.2.2]
theorem read_long (l : List UInt8) (h : 20 < l.length) : readE l = (0, 0, 3) := by unfold readE; rw [if_pos h]
theorem read_none (l : List UInt8) (h : ¬ 20 < l.length) (hm : markE l = none) : readE l = (0, 0, 6) := by unfold readE; rw [if_neg h, hm]
theorem read_bad (l : List UInt8) (h : ¬ 20 < l.length) (k s m : Int) (hm : markE l = some (k, s, m)) (hs : sizeE (l.take (l.length - 1)) = none) : readE l = (0, 0, 6) := by unfold readE; rw [if_neg h, hm]; simp only; rw [hs]
theorem read_far (l : List UInt8) (h : ¬ 20 < l.length) (k s m n : Int) (hm : markE l = some (k, s, m)) (hs : sizeE (l.take (l.length - 1)) = some n) (hn : m < n) : readE l = (0, 0, 7) := by unfold readE; rw [if_neg h, hm]; simp only; rw [hs]; simp only; rw [if_pos hn]
theorem read_ok (l : List UInt8) (h : ¬ 20 < l.length) (k s m n : Int) (hm : markE l = some (k, s, m)) (hs : sizeE (l.take (l.length - 1)) = some n) (hn : ¬ m < n) : readE l = (s * n, k, 0) := by unfold readE; rw [if_neg h, hm]; simp only; rw [hs]; simp only; rw [if_neg hn]
theorem take_le (l : List UInt8) (h : ¬ 20 < l.length) : (l.take (l.length - 1)).length ≤ 20 := by rw [List.length_take]; omega

set_option maxRecDepth 100000 in
set_option maxHeartbeats 4000000 in
theorem Read_any (l : List UInt8) (hl : l.length ≤ 9223372036854775807) (w : World) (hm : MarkTab w) (hx : MaxTab w) :
    Calls Tryd.prog 37 #[.string ⟨l.toArray⟩] w fun e w' => e = .returned (readV (readE l)) ∧ Below w.heap.size w w' := by
  by_cases h20 : 20 < l.length
  · have E := Lib.hid (read_long l h20)
    have h20' : (20 : Int) < (l.length : Int) := by omega
    clear hm hx
    go_enter Tryd.func37, Tryd.ntmps37
    go_wp2_with fail
    go_ret3
    exact ⟨by rw [E.out]; rfl, Below.refl _ _⟩
  · have h20' : ¬ (20 : Int) < (l.length : Int) := by omega
    have HX := Lib.hid hx
    have HC := Lib.hid (splitMark_any l (by omega) w hm)
    have HT := Lib.hid (take_le l h20)
    have H20 := Lib.hid h20
    clear hm hx h20
    go_enter Tryd.func37, Tryd.ntmps37
    go_wp2_with fail
    refine HC.out.mono ?_
    rintro e w1 ⟨rfl, hB1⟩
    have HB1 := Lib.hid hB1
    clear HC h20' hB1
    unfold markV
    rcases (show Lib.hasSuffix l [78] = true ∨ (Lib.hasSuffix l [78] = false ∧ Lib.hasSuffix l [83] = true) ∨ (Lib.hasSuffix l [78] = false ∧ Lib.hasSuffix l [83] = false ∧ Lib.hasSuffix l [69] = true) ∨
        (Lib.hasSuffix l [78] = false ∧ Lib.hasSuffix l [83] = false ∧ Lib.hasSuffix l [69] = false ∧ Lib.hasSuffix l [87] = true) ∨ (Lib.hasSuffix l [78] = false ∧ Lib.hasSuffix l [83] = false ∧ Lib.hasSuffix l [69] = false ∧ Lib.hasSuffix l [87] = false) by
      cases Lib.hasSuffix l [78] <;> cases Lib.hasSuffix l [83] <;> cases Lib.hasSuffix l [69] <;> cases Lib.hasSuffix l [87] <;> simp) with g0 | ⟨g0, g1⟩ | ⟨g0, g1, g2⟩ | ⟨g0, g1, g2, g3⟩ | ⟨g0, g1, g2, g3⟩
    · have hmk : markE l = some (0, 1, 90000000) := by unfold markE; rw [g0]; rfl
      rw [g0]
      clear g0
      simp only [if_true]
      unfold mark0 frontB
      have SM0 := Slot4.new w1 (.string bN) (.int .i64 0) (.int .i64 1) (.int .i64 90000000) 67
      have HB2 := Lib.hid (below_alloc HB1.out (.cells #[.string bN, .int .i64 0, .int .i64 1, .int .i64 90000000] 67))
      have HC := Lib.hid (readSize_any (l.take (l.length - 1)) HT.out _ (HX.out.below HB2.out))
      go_wp2_with fail
      refine HC.out.mono ?_
      rintro e w2 ⟨rfl, hB2⟩
      have HS := Lib.hid (SM0.next hB2)
      have HB3 := Lib.hid (below_next HB2.out hB2)
      clear SM0 hB2 HC HB1 HB2
      cases hs : sizeE (l.take (l.length - 1)) with
      | none =>
        have E := Lib.hid (read_bad l H20.out _ _ _ hmk hs)
        unfold sizeV
        simp only [Option.getD_none, Option.isSome_none]
        clear hmk hs
        go_wp2_with fail
        go_ret3
        exact ⟨by rw [E.out]; rfl, HB3.out⟩
      | some n =>
        have hp := sizeE_pos _ _ hs
        unfold sizeV
        simp only [Option.getD_some, Option.isSome_some]
        obtain ⟨_, s0, s1, s2, s3, _, _, _, _⟩ := HS.out
        by_cases hn : 90000000 < n
        · have E := Lib.hid (read_far l H20.out _ _ _ _ hmk hs hn)
          clear hmk hs
          go_wp2_with fail
          go_ret3
          exact ⟨by rw [E.out]; rfl, HB3.out⟩
        · have E := Lib.hid (read_ok l H20.out _ _ _ _ hmk hs hn)
          have hq : IntKind.i64.wrap (1 * n) = 1 * n := IntWalk.i64_in _ (by omega)
          have EQ := Lib.hid (show 1 * n = n by omega)
          clear hmk hs
          go_wp2_with fail
          go_quiet (fail)
          clear hq
          go_wp2_with fail
          go_ret3
          exact ⟨by rw [E.out, EQ.out]; rfl, below_drewN HB3.out _⟩
    · have hmk : markE l = some (0, (-1), 90000000) := by unfold markE; rw [g0, g1]; rfl
      rw [g0, g1]
      clear g0 g1
      simp only [if_true, Bool.false_eq_true, if_false]
      unfold mark1 frontB
      have SM0 := Slot4.new w1 (.string bS) (.int .i64 0) (.int .i64 (-1)) (.int .i64 90000000) 67
      have HB2 := Lib.hid (below_alloc HB1.out (.cells #[.string bS, .int .i64 0, .int .i64 (-1), .int .i64 90000000] 67))
      have HC := Lib.hid (readSize_any (l.take (l.length - 1)) HT.out _ (HX.out.below HB2.out))
      go_wp2_with fail
      refine HC.out.mono ?_
      rintro e w2 ⟨rfl, hB2⟩
      have HS := Lib.hid (SM0.next hB2)
      have HB3 := Lib.hid (below_next HB2.out hB2)
      clear SM0 hB2 HC HB1 HB2
      cases hs : sizeE (l.take (l.length - 1)) with
      | none =>
        have E := Lib.hid (read_bad l H20.out _ _ _ hmk hs)
        unfold sizeV
        simp only [Option.getD_none, Option.isSome_none]
        clear hmk hs
        go_wp2_with fail
        go_ret3
        exact ⟨by rw [E.out]; rfl, HB3.out⟩
      | some n =>
        have hp := sizeE_pos _ _ hs
        unfold sizeV
        simp only [Option.getD_some, Option.isSome_some]
        obtain ⟨_, s0, s1, s2, s3, _, _, _, _⟩ := HS.out
        by_cases hn : 90000000 < n
        · have E := Lib.hid (read_far l H20.out _ _ _ _ hmk hs hn)
          clear hmk hs
          go_wp2_with fail
          go_ret3
          exact ⟨by rw [E.out]; rfl, HB3.out⟩
        · have E := Lib.hid (read_ok l H20.out _ _ _ _ hmk hs hn)
          have hq : IntKind.i64.wrap ((-1) * n) = (-1) * n := IntWalk.i64_in _ (by omega)
          have EQ := Lib.hid (show (-1) * n = -n by omega)
          clear hmk hs
          go_wp2_with fail
          go_quiet (fail)
          clear hq
          go_wp2_with fail
          go_ret3
          exact ⟨by rw [E.out, EQ.out]; rfl, below_drewN HB3.out _⟩
    · have hmk : markE l = some (1, 1, 180000000) := by unfold markE; rw [g0, g1, g2]; rfl
      rw [g0, g1, g2]
      clear g0 g1 g2
      simp only [if_true, Bool.false_eq_true, if_false]
      unfold mark2 frontB
      have SM0 := Slot4.new w1 (.string bE) (.int .i64 1) (.int .i64 1) (.int .i64 180000000) 67
      have HB2 := Lib.hid (below_alloc HB1.out (.cells #[.string bE, .int .i64 1, .int .i64 1, .int .i64 180000000] 67))
      have HC := Lib.hid (readSize_any (l.take (l.length - 1)) HT.out _ (HX.out.below HB2.out))
      go_wp2_with fail
      refine HC.out.mono ?_
      rintro e w2 ⟨rfl, hB2⟩
      have HS := Lib.hid (SM0.next hB2)
      have HB3 := Lib.hid (below_next HB2.out hB2)
      clear SM0 hB2 HC HB1 HB2
      cases hs : sizeE (l.take (l.length - 1)) with
      | none =>
        have E := Lib.hid (read_bad l H20.out _ _ _ hmk hs)
        unfold sizeV
        simp only [Option.getD_none, Option.isSome_none]
        clear hmk hs
        go_wp2_with fail
        go_ret3
        exact ⟨by rw [E.out]; rfl, HB3.out⟩
      | some n =>
        have hp := sizeE_pos _ _ hs
        unfold sizeV
        simp only [Option.getD_some, Option.isSome_some]
        obtain ⟨_, s0, s1, s2, s3, _, _, _, _⟩ := HS.out
        by_cases hn : 180000000 < n
        · have E := Lib.hid (read_far l H20.out _ _ _ _ hmk hs hn)
          clear hmk hs
          go_wp2_with fail
          go_ret3
          exact ⟨by rw [E.out]; rfl, HB3.out⟩
        · have E := Lib.hid (read_ok l H20.out _ _ _ _ hmk hs hn)
          have hq : IntKind.i64.wrap (1 * n) = 1 * n := IntWalk.i64_in _ (by omega)
          have EQ := Lib.hid (show 1 * n = n by omega)
          clear hmk hs
          go_wp2_with fail
          go_quiet (fail)
          clear hq
          go_wp2_with fail
          go_ret3
          exact ⟨by rw [E.out, EQ.out]; rfl, below_drewN HB3.out _⟩
    · have hmk : markE l = some (1, (-1), 180000000) := by unfold markE; rw [g0, g1, g2, g3]; rfl
      rw [g0, g1, g2, g3]
      clear g0 g1 g2 g3
      simp only [if_true, Bool.false_eq_true, if_false]
      unfold mark3 frontB
      have SM0 := Slot4.new w1 (.string bW) (.int .i64 1) (.int .i64 (-1)) (.int .i64 180000000) 67
      have HB2 := Lib.hid (below_alloc HB1.out (.cells #[.string bW, .int .i64 1, .int .i64 (-1), .int .i64 180000000] 67))
      have HC := Lib.hid (readSize_any (l.take (l.length - 1)) HT.out _ (HX.out.below HB2.out))
      go_wp2_with fail
      refine HC.out.mono ?_
      rintro e w2 ⟨rfl, hB2⟩
      have HS := Lib.hid (SM0.next hB2)
      have HB3 := Lib.hid (below_next HB2.out hB2)
      clear SM0 hB2 HC HB1 HB2
      cases hs : sizeE (l.take (l.length - 1)) with
      | none =>
        have E := Lib.hid (read_bad l H20.out _ _ _ hmk hs)
        unfold sizeV
        simp only [Option.getD_none, Option.isSome_none]
        clear hmk hs
        go_wp2_with fail
        go_ret3
        exact ⟨by rw [E.out]; rfl, HB3.out⟩
      | some n =>
        have hp := sizeE_pos _ _ hs
        unfold sizeV
        simp only [Option.getD_some, Option.isSome_some]
        obtain ⟨_, s0, s1, s2, s3, _, _, _, _⟩ := HS.out
        by_cases hn : 180000000 < n
        · have E := Lib.hid (read_far l H20.out _ _ _ _ hmk hs hn)
          clear hmk hs
          go_wp2_with fail
          go_ret3
          exact ⟨by rw [E.out]; rfl, HB3.out⟩
        · have E := Lib.hid (read_ok l H20.out _ _ _ _ hmk hs hn)
          have hq : IntKind.i64.wrap ((-1) * n) = (-1) * n := IntWalk.i64_in _ (by omega)
          have EQ := Lib.hid (show (-1) * n = -n by omega)
          clear hmk hs
          go_wp2_with fail
          go_quiet (fail)
          clear hq
          go_wp2_with fail
          go_ret3
          exact ⟨by rw [E.out, EQ.out]; rfl, below_drewN HB3.out _⟩
    · have hmk : markE l = none := by unfold markE; rw [g0, g1, g2, g3]; rfl
      have E := Lib.hid (read_none l H20.out hmk)
      rw [g0, g1, g2, g3]
      clear g0 g1 g2 g3 hmk
      simp only [Bool.false_eq_true, if_false]
      have HB2 := Lib.hid (below_alloc HB1.out (.cells #[.string ⟨#[]⟩, .int .i64 0, .int .i64 0, .int .i64 0] 67))
      go_wp2_with fail
      go_ret3
      exact ⟨by rw [E.out]; rfl, HB2.out⟩
end Go.Proofs.YtnjedigjabijcaaDoor
