import Derived.Test.YtnjedigjabijcaaDoorRefWrite5
import Derived.Test.YtnjedigjabijcaaDoorRefReadMath
import Derived.Test.YtnjedigjabijcaaDoorRefRead2
import Derived.Test.YtnjedigjabijcaaDoorRead4
import Derived.Test.YtnjedigjabijcaaDoorAwake
namespace Go.Proofs.YtnjedigjabijcaaDoor
open Go Go.RowKit

set_option maxRecDepth 100000 in
set_option maxHeartbeats 4000000 in
theorem law_strings (l : List UInt8) (a axis : Int) (h0 : -9223372036854775808 ≤ a) (h1 : a ≤ 9223372036854775807) (hl : l.length ≤ 9223372036854775807) (w : World) (hm : MarkTab w) (hp : PowTab w) (hx : MaxTab w) :
    Calls Tryd.prog 6 #[.string ⟨l.toArray⟩, .int .i64 a, .int .i64 axis] w fun e w' => e = .returned (.bool true) ∧ Below w.heap.size w w' := by
  have HM := Lib.hid hm
  have HP := Lib.hid hp
  have C1 := Lib.hid (Read_any l hl w hm hx)
  have C2 := Lib.hid (fun V => rRead_any l hl V)
  have C3 := Lib.hid (fun V hV hV' => write_any a axis h0 h1 V hV hV')
  have C4 := Lib.hid (fun V => rwrite_any a axis V)
  rw [rread_eq l] at C2
  clear hm hp hx hl h0 h1
  generalize readE l = r at *
  obtain ⟨n, k, d⟩ := r
  generalize writeE a axis = t at *
  obtain ⟨t, g⟩ := t
  simp only at *
  go_enter Tryd.func6, Tryd.ntmps6
  go_wp2_with fail
  refine C1.out.mono ?_
  unfold readV
  rintro e w1 ⟨rfl, hB1⟩
  have K1 := Lib.hid hB1
  clear hB1 C1
  go_wp2_with fail
  refine (C2.out _).mono ?_
  unfold readV
  rintro e w2 ⟨rfl, hB2⟩
  have K2 := Lib.hid (below_next K1.out hB2)
  clear hB2 K1 C2
  go_wp2_with fail
  refine (C3.out _ (HM.out.below K2.out) (HP.out.below K2.out)).mono ?_
  unfold textV
  rintro e w3 ⟨rfl, hB3⟩
  have K3 := Lib.hid (below_next K2.out hB3)
  clear hB3 K2 C3
  go_wp2_with fail
  refine (C4.out _).mono ?_
  unfold textV
  rintro e w4 ⟨rfl, hB4⟩
  have K4 := Lib.hid (below_next K3.out hB4)
  clear hB4 K3 C4
  go_wp2_with fail
  refine (awake_any _ (HM.out.below K4.out) (HP.out.below K4.out)).mono ?_
  rintro e w5 ⟨rfl, hB5⟩
  have K5 := Lib.hid (below_next K4.out hB5)
  clear hB5
  go_wp2_with fail
  go_ret
  exact ⟨rfl, K5.out⟩
end Go.Proofs.YtnjedigjabijcaaDoor
