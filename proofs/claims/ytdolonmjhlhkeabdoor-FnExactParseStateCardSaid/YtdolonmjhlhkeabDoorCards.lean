/-
  DERIVED. GIVEN WITH THE SEED: THE CARDS: each row of YtdolonmjhlhkeabDoorRows.lean that lists a variable, with what it lists TIED to the program's text (the seventh form; the later family's looks); each row that meets fmt, with fmt's text TOLD by the authors' own Lean function (tested against real Go, not proved from fmt's source: count such statements apart). THE CARD IS WHAT COUNTS. Prove the row's statement (the work); the ties are given (YtdolonmjhlhkeabDoorTie.lean); close each card by the builder's one call (the guide's Derived/Test/ToyasCard.lean, 'card_holds'). Laid BY PROGRAM, IN A SANDBOX (cutbox-door.mjs). By AI agents, Wed Nov 11 2026. No macro, syntax, notation, axiom, sorry.
-/
import Derived.Test.YtdolonmjhlhkeabDoorRows
import GoSem.ClaimSeven
namespace Go.Proofs.YtdolonmjhlhkeabDoor
namespace Rows

/-- THE TIED CARD OF 'laws.FnExactParseState'. -/
def fnExactParseStateCard : Claim7 := { stood := { row := fnExactParseStateRow, standIns := [], harness := (true, "af713cb64ae5e304f379a1ac1021b9eebc840824870aafe5c0e8ffdea12e0c51"), looks := true }, kinds := [], alts := [], laidByText := true, laidKinds := [.data, .data, .data, .sentinel, .sentinel], laidTests := true, laidLooks := .later }
def FnExactParseStateCardSaid : Prop := Claim7.holds Tryd.pinned (.plain (OpenSpec.ofChange fnExactParseStateSpec)) fnExactParseStateCard

/-- THE SECOND FORM's CARD OF 'laws.FnExactParseState'. -/
def fnExactParseStateUptoCard : Claim7 := { stood := { row := fnExactParseStateUptoRow, standIns := [], harness := (true, "af713cb64ae5e304f379a1ac1021b9eebc840824870aafe5c0e8ffdea12e0c51"), looks := true }, kinds := [], alts := [], laidByText := true, laidKinds := [.data, .data, .data, .sentinel, .sentinel], laidTests := true, laidLooks := .later }
def FnExactParseStateUptoCardSaid : Prop := Claim7.holds Tryd.pinned (.plain (OpenSpec.upto fnExactParseStateSpec)) fnExactParseStateUptoCard
end Rows
end Go.Proofs.YtdolonmjhlhkeabDoor
