/-
  DERIVED. GIVEN WITH THE SEED: THE CARDS: each row of YtnjedigjabijcaaGreatDoorRows.lean that lists a variable, with what it lists TIED to the program's text (the seventh form; the later family's looks); each row that meets fmt, with fmt's text TOLD by the authors' own Lean function (tested against real Go, not proved from fmt's source: count such statements apart). THE CARD IS WHAT COUNTS. Prove the row's statement (the work); the ties are given (YtnjedigjabijcaaGreatDoorTie.lean); close each card by the builder's one call (the guide's Derived/Test/ToyasCard.lean, 'card_holds'). Laid BY PROGRAM, IN A SANDBOX (cutbox-door.mjs). By AI agents, Wed Nov 11 2026. No macro, syntax, notation, axiom, sorry.
-/
import Derived.Test.YtnjedigjabijcaaGreatDoorRows
import GoSem.ClaimSeven
namespace Go.Proofs.YtnjedigjabijcaaGreatDoor
namespace Rows

/-- THE TIED CARD OF 'linkboylaw01.AngleKnown'. -/
def angleKnownCard : Claim7 := { stood := { row := angleKnownRow, standIns := [], harness := (true, "56441432d8f0e8fcc79b42a007d1d9f2087e6de0ec267b0459b4f1e2b2a1aeba"), looks := false }, kinds := [], alts := [], laidByText := true, laidKinds := [.data, .data, .data, .data, .data, .pinned], laidTests := true, laidLooks := .later }
def AngleKnownCardSaid : Prop := Claim7.holds Tryz.pinned (.plain (OpenSpec.ofChange angleKnownSpec)) angleKnownCard

/-- THE SECOND FORM's CARD OF 'linkboylaw01.AngleKnown'. -/
def angleKnownUptoCard : Claim7 := { stood := { row := angleKnownUptoRow, standIns := [], harness := (true, "56441432d8f0e8fcc79b42a007d1d9f2087e6de0ec267b0459b4f1e2b2a1aeba"), looks := false }, kinds := [], alts := [], laidByText := true, laidKinds := [.data, .data, .data, .data, .data, .pinned], laidTests := true, laidLooks := .later }
def AngleKnownUptoCardSaid : Prop := Claim7.holds Tryz.pinned (.plain (OpenSpec.upto angleKnownSpec)) angleKnownUptoCard
end Rows
end Go.Proofs.YtnjedigjabijcaaGreatDoor
