import Derived.Test.YtnjedigjabijcaaDoorPlain
namespace Go.Proofs.YtnjedigjabijcaaDoor
def prodE (p q : Int × Int) : Int × Int :=
  (min (min (min (p.1 * q.1) (p.1 * q.2)) (p.2 * q.1)) (p.2 * q.2), max (max (max (p.1 * q.1) (p.1 * q.2)) (p.2 * q.1)) (p.2 * q.2))
/-- An enclosure with ends of at most 1, in order, up to a unit. -/
def Fit (p : Int × Int) : Prop := -100000001 ≤ p.1 ∧ p.1 ≤ p.2 ∧ p.2 ≤ 100000001
def sqE (p : Int × Int) : Int × Int :=
  if p.1 ≤ 0 ∧ 0 ≤ p.2 then (0, (prodE p p).2) else (min (p.1 * p.1) (p.2 * p.2), max (p.1 * p.1) (p.2 * p.2))
end Go.Proofs.YtnjedigjabijcaaDoor
