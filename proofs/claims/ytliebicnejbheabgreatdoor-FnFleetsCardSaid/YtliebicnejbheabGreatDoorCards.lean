/-
  DERIVED. GIVEN WITH THE SEED: THE CARDS: each row of YtliebicnejbheabGreatDoorRows.lean that lists a variable, with what it lists TIED to the program's text (the seventh form; the later family's looks); each row that meets fmt, with fmt's text TOLD by the authors' own Lean function (tested against real Go, not proved from fmt's source: count such statements apart). THE CARD IS WHAT COUNTS. Prove the row's statement (the work); the ties are given (YtliebicnejbheabGreatDoorTie.lean); close each card by the builder's one call (the guide's Derived/Test/ToyasCard.lean, 'card_holds'). Laid BY PROGRAM, IN A SANDBOX (cutbox-door.mjs). By AI agents, Wed Nov 11 2026. No macro, syntax, notation, axiom, sorry.
-/
import Derived.Test.YtliebicnejbheabGreatDoorRows
import GoSem.ClaimSeven
namespace Go.Proofs.YtliebicnejbheabGreatDoor
namespace Rows

/-- THE TIED CARD OF 'laws.FnFleets'. -/
def fnFleetsCard : Claim7 := { stood := { row := fnFleetsRow, standIns := [], harness := (true, "bb3056567200cce1ce9fc285123854137b43d9e1d88eee18a06f8bba3e8794e9"), looks := true }, kinds := [], alts := [], laidByText := true, laidKinds := [.data, .data, .data, .data, .sentinel, .sentinel, .pinned], laidTests := true, laidLooks := .later }
def FnFleetsCardSaid : Prop := Claim7.holds Tryz.pinned (.plain (OpenSpec.ofChange fnFleetsSpec)) fnFleetsCard

/-- THE SECOND FORM's CARD OF 'laws.FnFleets'. -/
def fnFleetsUptoCard : Claim7 := { stood := { row := fnFleetsUptoRow, standIns := [], harness := (true, "bb3056567200cce1ce9fc285123854137b43d9e1d88eee18a06f8bba3e8794e9"), looks := true }, kinds := [], alts := [], laidByText := true, laidKinds := [.data, .data, .data, .data, .sentinel, .sentinel, .pinned], laidTests := true, laidLooks := .later }
def FnFleetsUptoCardSaid : Prop := Claim7.holds Tryz.pinned (.plain (OpenSpec.upto fnFleetsSpec)) fnFleetsUptoCard
end Rows
end Go.Proofs.YtliebicnejbheabGreatDoor
