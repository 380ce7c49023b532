/-
  DERIVED. GIVEN WITH THE SEED: THE CARDS: each row of YtgadceelbeacgaaDoorRows.lean that lists a variable, with what it lists TIED to the program's text (the seventh form; the later family's looks); each row that meets fmt, with fmt's text TOLD by the authors' own Lean function (tested against real Go, not proved from fmt's source: count such statements apart). THE CARD IS WHAT COUNTS. Prove the row's statement (the work); the ties are given (YtgadceelbeacgaaDoorTie.lean); close each card by the builder's one call (the guide's Derived/Test/ToyasCard.lean, 'card_holds'). Laid BY PROGRAM, IN A SANDBOX (cutbox-door.mjs). By AI agents, Wed Nov 11 2026. No macro, syntax, notation, axiom, sorry.
-/
import Derived.Test.YtgadceelbeacgaaDoorRows
import GoSem.ClaimSeven
namespace Go.Proofs.YtgadceelbeacgaaDoor
namespace Rows

/-- THE TIED CARD OF 'laws.FnExactParseWaterway'. -/
def fnExactParseWaterwayCard : Claim7 := { stood := { row := fnExactParseWaterwayRow, standIns := [], harness := (true, "91ac55b9b80e9bd36dd450aa680e30782c2f232c48225edf6c26a8a43838faa4"), looks := true }, kinds := [], alts := [], laidByText := true, laidKinds := [.data, .data, .data, .data, .sentinel, .sentinel, .pinned], laidTests := true, laidLooks := .later }
def FnExactParseWaterwayCardSaid : Prop := Claim7.holds Tryd.pinned (.plain (OpenSpec.ofChange fnExactParseWaterwaySpec)) fnExactParseWaterwayCard

/-- THE TIED CARD OF 'laws.FnExactVesselText'. -/
def fnExactVesselTextCard : Claim7 := { stood := { row := fnExactVesselTextRow, standIns := [], harness := (true, "91ac55b9b80e9bd36dd450aa680e30782c2f232c48225edf6c26a8a43838faa4"), looks := true }, kinds := [], alts := [], laidByText := true, laidKinds := [.data, .data, .data, .data, .pinned], laidTests := true, laidLooks := .later }
def FnExactVesselTextCardSaid : Prop := Claim7.holds Tryd.pinned (.plain (OpenSpec.ofChange fnExactVesselTextSpec)) fnExactVesselTextCard

/-- THE TIED CARD OF 'laws.FnExactParseVessel'. -/
def fnExactParseVesselCard : Claim7 := { stood := { row := fnExactParseVesselRow, standIns := [], harness := (true, "91ac55b9b80e9bd36dd450aa680e30782c2f232c48225edf6c26a8a43838faa4"), looks := true }, kinds := [], alts := [], laidByText := true, laidKinds := [.data, .data, .data, .data, .sentinel, .sentinel, .pinned], laidTests := true, laidLooks := .later }
def FnExactParseVesselCardSaid : Prop := Claim7.holds Tryd.pinned (.plain (OpenSpec.ofChange fnExactParseVesselSpec)) fnExactParseVesselCard

/-- THE SECOND FORM's CARD OF 'laws.FnExactParseWaterway'. -/
def fnExactParseWaterwayUptoCard : Claim7 := { stood := { row := fnExactParseWaterwayUptoRow, standIns := [], harness := (true, "91ac55b9b80e9bd36dd450aa680e30782c2f232c48225edf6c26a8a43838faa4"), looks := true }, kinds := [], alts := [], laidByText := true, laidKinds := [.data, .data, .data, .data, .sentinel, .sentinel, .pinned], laidTests := true, laidLooks := .later }
def FnExactParseWaterwayUptoCardSaid : Prop := Claim7.holds Tryd.pinned (.plain (OpenSpec.upto fnExactParseWaterwaySpec)) fnExactParseWaterwayUptoCard

/-- THE SECOND FORM's CARD OF 'laws.FnExactVesselText'. -/
def fnExactVesselTextUptoCard : Claim7 := { stood := { row := fnExactVesselTextUptoRow, standIns := [], harness := (true, "91ac55b9b80e9bd36dd450aa680e30782c2f232c48225edf6c26a8a43838faa4"), looks := true }, kinds := [], alts := [], laidByText := true, laidKinds := [.data, .data, .data, .data, .pinned], laidTests := true, laidLooks := .later }
def FnExactVesselTextUptoCardSaid : Prop := Claim7.holds Tryd.pinned (.plain (OpenSpec.upto fnExactVesselTextSpec)) fnExactVesselTextUptoCard

/-- THE SECOND FORM's CARD OF 'laws.FnExactParseVessel'. -/
def fnExactParseVesselUptoCard : Claim7 := { stood := { row := fnExactParseVesselUptoRow, standIns := [], harness := (true, "91ac55b9b80e9bd36dd450aa680e30782c2f232c48225edf6c26a8a43838faa4"), looks := true }, kinds := [], alts := [], laidByText := true, laidKinds := [.data, .data, .data, .data, .sentinel, .sentinel, .pinned], laidTests := true, laidLooks := .later }
def FnExactParseVesselUptoCardSaid : Prop := Claim7.holds Tryd.pinned (.plain (OpenSpec.upto fnExactParseVesselSpec)) fnExactParseVesselUptoCard
end Rows
end Go.Proofs.YtgadceelbeacgaaDoor
