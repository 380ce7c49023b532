/-
  DERIVED. GIVEN WITH THE SEED: THE CARDS: each row of YtomehioembakgaaDoorRows.lean that lists a variable, with what it lists TIED to the program's text (the seventh form; the later family's looks); each row that meets fmt, with fmt's text TOLD by the authors' own Lean function (tested against real Go, not proved from fmt's source: count such statements apart). THE CARD IS WHAT COUNTS. Prove the row's statement (the work); the ties are given (YtomehioembakgaaDoorTie.lean); close each card by the builder's one call (the guide's Derived/Test/ToyasCard.lean, 'card_holds'). Laid BY PROGRAM, IN A SANDBOX (cutbox-door.mjs). By AI agents, Wed Nov 11 2026. No macro, syntax, notation, axiom, sorry.
-/
import Derived.Test.YtomehioembakgaaDoorRows
import GoSem.ClaimSeven
namespace Go.Proofs.YtomehioembakgaaDoor
namespace Rows

/-- THE TIED CARD OF 'laws.FnExactWaterwayText'. -/
def fnExactWaterwayTextCard : Claim7 := { stood := { row := fnExactWaterwayTextRow, standIns := [], harness := (true, "243a143370dec0d852a85154cc7d51c2ab477912153257ea14e458199ae80e7e"), looks := true }, kinds := [], alts := [], laidByText := true, laidKinds := [.data, .data, .data, .data, .pinned], laidTests := true, laidLooks := .later }
def FnExactWaterwayTextCardSaid : Prop := Claim7.holds Tryd.pinned (.plain (OpenSpec.ofChange fnExactWaterwayTextSpec)) fnExactWaterwayTextCard

/-- THE TIED CARD OF 'laws.FnExactParseWaterway'. -/
def fnExactParseWaterwayCard : Claim7 := { stood := { row := fnExactParseWaterwayRow, standIns := [], harness := (true, "243a143370dec0d852a85154cc7d51c2ab477912153257ea14e458199ae80e7e"), looks := true }, kinds := [], alts := [], laidByText := true, laidKinds := [.data, .data, .data, .data, .sentinel, .sentinel, .pinned], laidTests := true, laidLooks := .later }
def FnExactParseWaterwayCardSaid : Prop := Claim7.holds Tryd.pinned (.plain (OpenSpec.ofChange fnExactParseWaterwaySpec)) fnExactParseWaterwayCard

/-- THE SECOND FORM's CARD OF 'laws.FnExactWaterwayText'. -/
def fnExactWaterwayTextUptoCard : Claim7 := { stood := { row := fnExactWaterwayTextUptoRow, standIns := [], harness := (true, "243a143370dec0d852a85154cc7d51c2ab477912153257ea14e458199ae80e7e"), looks := true }, kinds := [], alts := [], laidByText := true, laidKinds := [.data, .data, .data, .data, .pinned], laidTests := true, laidLooks := .later }
def FnExactWaterwayTextUptoCardSaid : Prop := Claim7.holds Tryd.pinned (.plain (OpenSpec.upto fnExactWaterwayTextSpec)) fnExactWaterwayTextUptoCard

/-- THE SECOND FORM's CARD OF 'laws.FnExactParseWaterway'. -/
def fnExactParseWaterwayUptoCard : Claim7 := { stood := { row := fnExactParseWaterwayUptoRow, standIns := [], harness := (true, "243a143370dec0d852a85154cc7d51c2ab477912153257ea14e458199ae80e7e"), looks := true }, kinds := [], alts := [], laidByText := true, laidKinds := [.data, .data, .data, .data, .sentinel, .sentinel, .pinned], laidTests := true, laidLooks := .later }
def FnExactParseWaterwayUptoCardSaid : Prop := Claim7.holds Tryd.pinned (.plain (OpenSpec.upto fnExactParseWaterwaySpec)) fnExactParseWaterwayUptoCard
end Rows
end Go.Proofs.YtomehioembakgaaDoor
