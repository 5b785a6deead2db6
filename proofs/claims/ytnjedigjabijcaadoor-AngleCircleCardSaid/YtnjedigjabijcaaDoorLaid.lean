import Derived.Test.YtnjedigjabijcaaDoorCards
import Derived.Test.YtnjedigjabijcaaDoorTie
import Derived.Test.YtnjedigjabijcaaDoorAwake
import Derived.ProofKit
import Derived.OpenShut
import Derived.Lay
import Derived.LaidSub
import Derived.Lib.LaidTab
import Derived.Lib.SmallJoins
import Derived.SevenTiedAt
namespace Go.Proofs.YtnjedigjabijcaaDoor
open Go Go.RowKit Go.Joins Go.ChangeShapes Go.WideShapes Go.ChangeAt

theorem own : ownKnob Tryd.prog.godebug = none := by kernel_rfl
theorem cells67 : Tryd.prog.cellsOf 67 = 4 := by kernel_rfl
theorem cells72 : Tryd.prog.cellsOf 72 = 16 := by kernel_rfl
theorem cells9 : Tryd.prog.cellsOf 9 = 1 := by kernel_rfl
theorem cells3 : Tryd.prog.cellsOf 3 = 1 := by kernel_rfl
theorem cells23 : Tryd.prog.cellsOf 23 = 2 := by kernel_rfl
theorem cells98 : Tryd.prog.cellsOf 98 = 1 := by kernel_rfl
theorem cells149 : Tryd.prog.cellsOf 149 = 20 := by kernel_rfl
theorem tMarks : (Tryd.prog.globals[0]?).map (·.type) = some 72 := by kernel_rfl
theorem tPow : (Tryd.prog.globals[3]?).map (·.type) = some 149 := by kernel_rfl

set_option maxRecDepth 100000 in
theorem elem_of {H : Type} {enc : TypeId × Value → H} {w : World} {base : Nat} {spare : Nat → Bool} {held : Bool} {m : Nat} {l : List Value} {x : DataW H × List MemPlace} {c : UInt8} {a b d : Int}
    (hl : l.length = 4) (h : DataW.trod enc Tryd.prog w base spare held m 67 l = some x)
    (hx : x.1 = .agg [.lit (.string [c]), .lit (.int .i64 a), .lit (.int .i64 b), .lit (.int .i64 d)]) : l = [.string ⟨#[c]⟩, .int .i64 a, .int .i64 b, .int .i64 d] := by
  obtain ⟨y0, y1, y2, y3, n, hx', _, h0, h1, h2, h3⟩ := trod_struct4 Tryd.underlying67 h
  match l, hl with
  | [v0, v1, v2, v3], _ =>
    simp only [cells9, cells3] at h0 h1 h2 h3
    obtain ⟨s, e0, r0, _⟩ := DataW.trod_string Tryd.underlying9 h0
    obtain ⟨n1, e1, r1, _⟩ := DataW.trod_int Tryd.underlying3 h1
    obtain ⟨n2, e2, r2, _⟩ := DataW.trod_int Tryd.underlying3 h2
    obtain ⟨n3, e3, r3, _⟩ := DataW.trod_int Tryd.underlying3 h3
    subst r0 r1 r2 r3
    subst hx'
    simp at e0 e1 e2 e3 hx
    obtain ⟨k0, k1, k2, k3⟩ := hx
    subst e0 e1 e2 e3 k1 k2 k3
    have : s = ⟨#[c]⟩ := by
      obtain ⟨⟨sl⟩⟩ := s
      simp at k0
      rw [k0]
    rw [this]

theorem parts4 (l : List Value) (h : l.length = 16) : l = (l.drop 0).take 4 ++ ((l.drop 4).take 4 ++ ((l.drop 8).take 4 ++ (l.drop 12).take 4)) := by
  have e3 : (l.drop 12).take 4 = l.drop 12 := List.take_of_length_le (by simp; omega)
  have e2 : (l.drop 8).take 4 ++ l.drop 12 = l.drop 8 := by
    have := List.take_append_drop 4 (l.drop 8)
    rwa [List.drop_drop] at this
  have e1 : (l.drop 4).take 4 ++ l.drop 8 = l.drop 4 := by
    have := List.take_append_drop 4 (l.drop 4)
    rwa [List.drop_drop] at this
  rw [e3, e2, e1]
  simp

theorem markTab_of {W : World} (h : laidMet Tryd.prog [("linkboy/angle.marks", Rows.laid_linkboy_angle_marks)] W) : MarkTab W := by
  obtain ⟨ps, ⟨g, t, cs, fuel, p, q, hg, ht, hvar, hd, _, _⟩, _⟩ := h
  obtain rfl := Option.some.inj (gMarks.symm.trans hg)
  obtain rfl := Option.some.inj (tMarks.symm.trans ht)
  unfold MarkTab
  rw [hvar]
  obtain ⟨xs, m, _, hx, hlen, hn, hel⟩ := DataW.trod_array Tryd.underlying72 hd
  rw [cells72] at hlen
  have hx1 : xs.map (·.1) = [.agg [.lit (.string [78]), .lit (.int .i64 0), .lit (.int .i64 1), .lit (.int .i64 90000000)], .agg [.lit (.string [83]), .lit (.int .i64 0), .lit (.int .i64 (-1)), .lit (.int .i64 90000000)],
      .agg [.lit (.string [69]), .lit (.int .i64 1), .lit (.int .i64 1), .lit (.int .i64 180000000)], .agg [.lit (.string [87]), .lit (.int .i64 1), .lit (.int .i64 (-1)), .lit (.int .i64 180000000)]] := by
    have := congrArg Prod.fst hx
    simp only [Rows.laid_linkboy_angle_marks, DataW.agg.injEq] at this
    exact this.symm
  simp only [cells67] at hel
  match xs, hn, hx1, hel with
  | [x0, x1, x2, x3], _, hx1, hel =>
    simp only [List.map_cons, List.map_nil, List.cons.injEq, and_true] at hx1
    obtain ⟨g0, g1, g2, g3⟩ := hx1
    have f0 := elem_of (by rw [List.length_take, List.length_drop, hlen]; decide) (hel 0 (by decide)) g0
    have f1 := elem_of (by rw [List.length_take, List.length_drop, hlen]; decide) (hel 1 (by decide)) g1
    have f2 := elem_of (by rw [List.length_take, List.length_drop, hlen]; decide) (hel 2 (by decide)) g2
    have f3 := elem_of (by rw [List.length_take, List.length_drop, hlen]; decide) (hel 3 (by decide)) g3
    congr 1
    apply Array.toList_inj.1
    rw [parts4 cs.toList hlen]
    simp only [Nat.zero_mul, Nat.one_mul] at f0 f1 f2 f3
    rw [f0, f1, f2, f3]
    rfl

theorem powTab_of {W : World} (h : laidMet Tryd.prog [("internal/strconv.uint64pow10", Rows.laid_internal_strconv_uint64pow10)] W) : PowTab W :=
  Lib.tabIs_of_head (rest := []) (zs := Lib.pow10Tab) gPow tPow Tryd.underlying149 Tryd.underlying98 cells98 cells149 h

/-- What each row lists. -/
def laidL : List (String × DataW Unit) := [("math/bits.deBruijn32tab", Rows.laid_math_bits_deBruijn32tab), ("math/bits.deBruijn64tab", Rows.laid_math_bits_deBruijn64tab), ("internal/strconv.uint64pow10", Rows.laid_internal_strconv_uint64pow10), ("unicode/utf8.acceptRanges", Rows.laid_unicode_utf8_acceptRanges), ("linkboy/angle.marks", Rows.laid_linkboy_angle_marks), ("unicode/utf8.first", Rows.laid_unicode_utf8_first)]
theorem laid_gives {W : World} (h : laidMetH Tryd.prog laidL W) : MarkTab W ∧ PowTab W := by
  rw [MakeChecks.laidMetH_plain _ _ _ (by kernel_rfl)] at h
  exact ⟨markTab_of (laidMet.filter (fun x => x.1 == "linkboy/angle.marks") h), powTab_of (laidMet.filter (fun x => x.1 == "internal/strconv.uint64pow10") h)⟩
theorem laid_met (os : Os) (args : Array Value) : laidMetH Tryd.prog laidL ((World.laidAll Tryd.prog os laidL).forCall (fun _ _ => 0) ⟨#[], args, []⟩).memory := by
  rw [MakeChecks.laidMetH_plain _ _ _ (by kernel_rfl)]
  exact laidMet_laidAll _ (by kernel_rfl) (by kernel_rfl)
end Go.Proofs.YtnjedigjabijcaaDoor
