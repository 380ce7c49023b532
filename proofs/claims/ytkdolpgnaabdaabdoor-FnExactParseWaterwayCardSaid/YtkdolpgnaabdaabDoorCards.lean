/-
  DERIVED. GIVEN WITH THE SEED: THE CARDS: each row of YtkdolpgnaabdaabDoorRows.lean that lists a variable, with what it lists TIED to the program's text (the seventh form; the later family's looks); each row that meets fmt, with fmt's text TOLD by the authors' own Lean function (tested against real Go, not proved from fmt's source: count such statements apart). THE CARD IS WHAT COUNTS. Prove the row's statement (the work); the ties are given (YtkdolpgnaabdaabDoorTie.lean); close each card by the builder's one call (the guide's Derived/Test/ToyasCard.lean, 'card_holds'). Laid BY PROGRAM, IN A SANDBOX (cutbox-door.mjs). By AI agents, Wed Nov 11 2026. No macro, syntax, notation, axiom, sorry.
-/
import Derived.Test.YtkdolpgnaabdaabDoorRows
import GoSem.ClaimSeven
namespace Go.Proofs.YtkdolpgnaabdaabDoor
namespace Rows

/-- THE TIED CARD OF 'laws.FnExactParseWaterway'. -/
def fnExactParseWaterwayCard : Claim7 := { stood := { row := fnExactParseWaterwayRow, standIns := [], harness := (true, "2c0d319ded7b5d6061270b84631092abf585e2bdc1569f2077ad8897990d63ff"), looks := true }, kinds := [], alts := [], laidByText := true, laidKinds := [.data, .data, .data, .data, .sentinel, .sentinel, .pinned], laidTests := true, laidLooks := .later }
def FnExactParseWaterwayCardSaid : Prop := Claim7.holds Tryd.pinned (.plain (OpenSpec.ofChange fnExactParseWaterwaySpec)) fnExactParseWaterwayCard

/-- THE SECOND FORM's CARD OF 'laws.FnExactParseWaterway'. -/
def fnExactParseWaterwayUptoCard : Claim7 := { stood := { row := fnExactParseWaterwayUptoRow, standIns := [], harness := (true, "2c0d319ded7b5d6061270b84631092abf585e2bdc1569f2077ad8897990d63ff"), looks := true }, kinds := [], alts := [], laidByText := true, laidKinds := [.data, .data, .data, .data, .sentinel, .sentinel, .pinned], laidTests := true, laidLooks := .later }
def FnExactParseWaterwayUptoCardSaid : Prop := Claim7.holds Tryd.pinned (.plain (OpenSpec.upto fnExactParseWaterwaySpec)) fnExactParseWaterwayUptoCard
end Rows
end Go.Proofs.YtkdolpgnaabdaabDoor
