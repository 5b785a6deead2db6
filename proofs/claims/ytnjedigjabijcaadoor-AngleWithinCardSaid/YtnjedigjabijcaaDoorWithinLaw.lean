import Derived.Test.YtnjedigjabijcaaDoorWithin
namespace Go.Proofs.YtnjedigjabijcaaDoor
open Go Go.RowKit

theorem law_within (y z : Int × Int) (s t : Int) (hs : 0 ≤ s ∧ s ≤ 255) (ht : 0 ≤ t ∧ t ≤ 255)
    (h1 : -9223372036854775808 ≤ z.1 ∧ z.1 ≤ 9223372036854775807) (h2 : -9223372036854775808 ≤ z.2 ∧ z.2 ≤ 9223372036854775807) (w : World) (hm : MarkTab w) (hp : PowTab w) :
    Calls Tryd.prog 12 #[.agg #[.int .i64 y.1, .int .i64 y.2], .agg #[.int .i64 z.1, .int .i64 z.2], .agg #[.int .u8 s, .int .u8 t]] w fun e w' => e = .returned (.bool true) ∧ Below w.heap.size w w' := by
  by_cases c : -3600000000 ≤ y.1 ∧ y.1 ≤ y.2 ∧ y.2 ≤ 3600000000
  · exact law_within_yes y z s t hs.1 hs.2 ht.1 ht.2 c.1 c.2.1 c.2.2 ⟨h1, h2⟩ w hm hp
  · exact law_within_no y z s t (by omega) w hm hp
end Go.Proofs.YtnjedigjabijcaaDoor
