import Derived.Test.YtnjedigjabijcaaDoorRead4
import Derived.Test.YtnjedigjabijcaaDoorAwake
namespace Go.Proofs.YtnjedigjabijcaaDoor
open Go Go.RowKit

theorem write_len (a axis : Int) : (writeE a axis).1.length ≤ 11 := by
  unfold writeE
  by_cases c0 : axis = 0
  · rw [if_pos c0]
    by_cases c1 : a < -90000000 ∨ 90000000 < a
    · rw [if_pos c1]; simp
    · rw [if_neg c1]
      by_cases c2 : a < 0
      · have := sizeL_len (-a) (by omega) (by omega)
        simp only [if_pos c2, List.length_append, List.length_singleton]; omega
      · have := sizeL_len a (by omega) (by omega)
        simp only [if_neg c2, List.length_append, List.length_singleton]; omega
  · rw [if_neg c0]
    by_cases c3 : axis = 1
    · rw [if_pos c3]
      by_cases c1 : a < -180000000 ∨ 180000000 < a
      · rw [if_pos c1]; simp
      · rw [if_neg c1]
        by_cases c2 : a < 0
        · have := sizeL_len (-a) (by omega) (by omega)
          simp only [if_pos c2, List.length_append, List.length_singleton]; omega
        · have := sizeL_len a (by omega) (by omega)
          simp only [if_neg c2, List.length_append, List.length_singleton]; omega
    · rw [if_neg c3]; simp
theorem write_bd (a axis : Int) (h : (writeE a axis).2 = 0) : -180000000 ≤ a ∧ a ≤ 180000000 := by
  unfold writeE at h
  by_cases c0 : axis = 0
  · rw [if_pos c0] at h
    by_cases c1 : a < -90000000 ∨ 90000000 < a
    · rw [if_pos c1] at h; exact absurd h (by decide)
    · omega
  · rw [if_neg c0] at h
    by_cases c3 : axis = 1
    · rw [if_pos c3] at h
      by_cases c1 : a < -180000000 ∨ 180000000 < a
      · rw [if_pos c1] at h; exact absurd h (by decide)
      · omega
    · rw [if_neg c3] at h; exact absurd h (by decide)

set_option maxRecDepth 100000 in
set_option maxHeartbeats 4000000 in
theorem law_read (a axis : Int) (l : List UInt8) (h0 : -9223372036854775808 ≤ a) (h1 : a ≤ 9223372036854775807) (hl : l.length ≤ 9223372036854775807) (w : World) (hm : MarkTab w) (hp : PowTab w) (hx : MaxTab w) :
    Calls Tryd.prog 13 #[.int .i64 a, .int .i64 axis, .string ⟨l.toArray⟩] w fun e w' => e = .returned (.bool true) ∧ Below w.heap.size w w' := by
  have HM := Lib.hid hm
  have HP := Lib.hid hp
  have HX := Lib.hid hx
  have HR := Lib.hid (readE_ok l)
  have HBk := Lib.hid (read_back a axis)
  have HLen := Lib.hid (write_len a axis)
  have CW := Lib.hid (write_any a axis h0 h1 w hm hp)
  have CR := Lib.hid (fun V hV hV' => Read_any l hl V hV hV')
  clear hm hp hx hl h0 h1
  generalize writeE a axis = t at *
  obtain ⟨t, c⟩ := t
  generalize readE l = r at *
  obtain ⟨b, k, d⟩ := r
  simp only at *
  go_enter Tryd.func13, Tryd.ntmps13
  go_wp2_with fail
  refine CW.out.mono ?_
  unfold textV
  rintro e w1 ⟨rfl, hB1⟩
  have HB1 := Lib.hid hB1
  clear hB1 CW
  have tail : Hid (∀ V, Below w.heap.size w V → Calls Tryd.prog 37 #[.string ⟨l.toArray⟩] V fun e w' => e = .returned (readV (b, k, d)) ∧ Below w.heap.size w w') :=
    Lib.hid fun V hV => (CR.out V (HM.out.below hV) (HX.out.below hV)).mono fun e w' ⟨he, hB⟩ => ⟨he, below_next hV hB⟩
  clear CR
  have HD : Hid (d = 0 ∨ ¬ d = 0) := Lib.hid (Decidable.em _)
  by_cases hc : c = 0
  · subst hc
    have e := HBk.out rfl
    have CR1 := Lib.hid (Read_any t (by have := HLen.out; omega) w1 (HM.out.below HB1.out) (HX.out.below HB1.out))
    rw [e] at CR1
    clear e HBk HLen
    go_wp2_with fail
    refine CR1.out.mono ?_
    unfold readV
    rintro e w2 ⟨rfl, hB2⟩
    have HB2 := Lib.hid (below_next HB1.out hB2)
    clear hB2 HB1 CR1
    go_wp2_with fail
    refine (tail.out _ HB2.out).mono ?_
    unfold readV
    rintro e w5 ⟨rfl, hB5⟩
    have HB5 := Lib.hid hB5
    clear hB5 tail
    rcases HD.out with hd | hd
    · subst hd
      obtain hw := HR.out b k rfl
      have hbd := write_bd b k hw
      have CW := Lib.hid (write_any b k (by omega) (by omega) w5 (HM.out.below HB5.out) (HP.out.below HB5.out))
      have HBk := Lib.hid (read_back b k hw)
      have HLen := Lib.hid (write_len b k)
      have HWr := Lib.hid hw
      clear hbd hw HR HD
      go_wp2_with fail
      refine CW.out.mono ?_
      unfold textV
      rw [HWr.out]
      rintro e w6 ⟨rfl, hB6⟩
      have HB6 := Lib.hid (below_next HB5.out hB6)
      have CR := Lib.hid (Read_any (writeE b k).1 (by have := HLen.out; omega) w6 (HM.out.below HB6.out) (HX.out.below HB6.out))
      rw [HBk.out] at CR
      clear hB6 HB5 CW HWr HLen HBk
      generalize (writeE b k).1 = u at *
      go_wp2_with fail
      refine CR.out.mono ?_
      unfold readV
      rintro e w7 ⟨rfl, hB7⟩
      have HB7 := Lib.hid (below_next HB6.out hB7)
      clear hB7 HB6 CR
      go_wp2_with fail
      refine (awake_any _ (HM.out.below HB7.out) (HP.out.below HB7.out)).mono ?_
      rintro e w8 ⟨rfl, hB8⟩
      have HF := Lib.hid (below_next HB7.out hB8)
      clear hB8
      go_wp2_with fail
      go_ret
      exact ⟨rfl, HF.out⟩
    · have e2 : (d == 0) = false := by simp [hd]
      have e3 : (d != 0) = true := by simp [hd]
      clear hd HD HR
      go_wp2_with fail
      refine (awake_any _ (HM.out.below HB5.out) (HP.out.below HB5.out)).mono ?_
      rintro e w8 ⟨rfl, hB8⟩
      have HF := Lib.hid (below_next HB5.out hB8)
      clear hB8
      go_wp2_with fail
      go_ret
      exact ⟨rfl, HF.out⟩
  · have e1 : (c == 0) = false := by simp [hc]
    clear hc HBk HLen
    go_wp2_with fail
    refine (tail.out _ HB1.out).mono ?_
    unfold readV
    rintro e w5 ⟨rfl, hB5⟩
    have HB5 := Lib.hid hB5
    clear hB5 tail
    rcases HD.out with hd | hd
    · subst hd
      obtain hw := HR.out b k rfl
      have hbd := write_bd b k hw
      have CW := Lib.hid (write_any b k (by omega) (by omega) w5 (HM.out.below HB5.out) (HP.out.below HB5.out))
      have HBk := Lib.hid (read_back b k hw)
      have HLen := Lib.hid (write_len b k)
      have HWr := Lib.hid hw
      clear hbd hw HR HD
      go_wp2_with fail
      refine CW.out.mono ?_
      unfold textV
      rw [HWr.out]
      rintro e w6 ⟨rfl, hB6⟩
      have HB6 := Lib.hid (below_next HB5.out hB6)
      have CR := Lib.hid (Read_any (writeE b k).1 (by have := HLen.out; omega) w6 (HM.out.below HB6.out) (HX.out.below HB6.out))
      rw [HBk.out] at CR
      clear hB6 HB5 CW HWr HLen HBk
      generalize (writeE b k).1 = u at *
      go_wp2_with fail
      refine CR.out.mono ?_
      unfold readV
      rintro e w7 ⟨rfl, hB7⟩
      have HB7 := Lib.hid (below_next HB6.out hB7)
      clear hB7 HB6 CR
      go_wp2_with fail
      refine (awake_any _ (HM.out.below HB7.out) (HP.out.below HB7.out)).mono ?_
      rintro e w8 ⟨rfl, hB8⟩
      have HF := Lib.hid (below_next HB7.out hB8)
      clear hB8
      go_wp2_with fail
      go_ret
      exact ⟨rfl, HF.out⟩
    · have e2 : (d == 0) = false := by simp [hd]
      have e3 : (d != 0) = true := by simp [hd]
      clear hd HD HR
      go_wp2_with fail
      refine (awake_any _ (HM.out.below HB5.out) (HP.out.below HB5.out)).mono ?_
      rintro e w8 ⟨rfl, hB8⟩
      have HF := Lib.hid (below_next HB5.out hB8)
      clear hB8
      go_wp2_with fail
      go_ret
      exact ⟨rfl, HF.out⟩
end Go.Proofs.YtnjedigjabijcaaDoor
