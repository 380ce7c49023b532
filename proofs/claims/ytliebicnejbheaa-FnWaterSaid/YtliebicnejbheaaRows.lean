/-
  No cell of these rows narrows 'for every input' (looked for: loops, veiled, ifaces, maps, wideKeys, modest, calm, conditions, laid).
  DERIVED. THE GIVEN ROWS OF THIS SEAT. 11 by the template 'for every input the law returns true; each argument reads behind the call as it read before'; 0 by the template 'total and deterministic' (their statements: YtliebicnejbheaaTotals.lean).
  GIVEN WITH THE SEED: the statements are not yours to turn. If you find one false, say at which input.
  Laid BY PROGRAM, IN A SANDBOX (cutbox-rows.mjs): the forced cells as the released guide's own fill.sh prints them over the translation 7ae65256bf1d922c… (all of the seat's roots in one cut). By AI agents, Wed Nov 11 2026. No macro, syntax, notation, axiom, sorry.
-/
import Derived.Test.YtliebicnejbheaaChecked
import GoSem.Claim
import GoSem.ClaimJoined
import GoSem.ClaimMapViews
import Derived.JoinedTies
import Derived.KernelRfl
namespace Go.Proofs.Ytliebicnejbheaa
/- THE CELL 'sum', in the pinned program and in every row, IS THE sha256 OF THE DUMP (.gsa) THAT YtliebicnejbheaaProg.lean LOADS. Nothing in Lean hashes anything: it is a label: what it is worth is what the hold of that sum in a sandbox is worth. -/
noncomputable def Try.pinned : Pinned := { name := "ytliebicnejbheaa", sum := "7ae65256bf1d922c4637fa43d427d7f9b382c8da78891693047f69caf2c2cf18", checked := Try.checked }
namespace Rows
def none {H : Type} : Left H := { results := [], args := [] }

/-- 'laws.FnWater': WHATEVER THE INPUT: true; the input reads as it did. -/
def fnWaterSpec : ChangeSpec := { name := "fnWater", fn := fun _ => fun
  | [d] => { results := [.lit (.bool true)], args := [d] }
  | _ => none }
def fnWaterRow : OpenClaim := { program := "ytliebicnejbheaa", sum := "7ae65256bf1d922c4637fa43d427d7f9b382c8da78891693047f69caf2c2cf18", func := "loop.example/g00924/laws.FnWater", spec := "fnWater", apart := false }
def FnWaterSaid : Prop := fnWaterRow.holds Try.pinned (OpenSpec.ofChange fnWaterSpec)

/-- ITS FALSE NEIGHBOUR: 'it returns false'. Refute it at one input. -/
def fnWaterWrong : ChangeSpec := { name := "fnWater", fn := fun _ => fun
  | [d] => { results := [.lit (.bool false)], args := [d] }
  | _ => none }
def FnWaterWrongFalsely : Prop := fnWaterRow.holds Try.pinned (OpenSpec.ofChange fnWaterWrong)

/-- 'laws.FnSupplies': WHATEVER THE INPUT: true; the input reads as it did. -/
def fnSuppliesSpec : ChangeSpec := { name := "fnSupplies", fn := fun _ => fun
  | [d] => { results := [.lit (.bool true)], args := [d] }
  | _ => none }
def fnSuppliesRow : OpenClaim := { program := "ytliebicnejbheaa", sum := "7ae65256bf1d922c4637fa43d427d7f9b382c8da78891693047f69caf2c2cf18", func := "loop.example/g00924/laws.FnSupplies", spec := "fnSupplies", unfollowed := true, recurses := true, apart := false }
def FnSuppliesSaid : Prop := fnSuppliesRow.holds Try.pinned (OpenSpec.ofChange fnSuppliesSpec)

/-- ITS FALSE NEIGHBOUR: 'it returns false'. Refute it at one input. -/
def fnSuppliesWrong : ChangeSpec := { name := "fnSupplies", fn := fun _ => fun
  | [d] => { results := [.lit (.bool false)], args := [d] }
  | _ => none }
def FnSuppliesWrongFalsely : Prop := fnSuppliesRow.holds Try.pinned (OpenSpec.ofChange fnSuppliesWrong)

/-- 'laws.FnExactAreBasins': WHATEVER THE INPUT: true; the input reads as it did. -/
def fnExactAreBasinsSpec : ChangeSpec := { name := "fnExactAreBasins", fn := fun _ => fun
  | [d] => { results := [.lit (.bool true)], args := [d] }
  | _ => none }
def fnExactAreBasinsRow : OpenClaim := { program := "ytliebicnejbheaa", sum := "7ae65256bf1d922c4637fa43d427d7f9b382c8da78891693047f69caf2c2cf18", func := "loop.example/g00924/laws.FnExactAreBasins", spec := "fnExactAreBasins", apart := false }
def FnExactAreBasinsSaid : Prop := fnExactAreBasinsRow.holds Try.pinned (OpenSpec.ofChange fnExactAreBasinsSpec)

/-- ITS FALSE NEIGHBOUR: 'it returns false'. Refute it at one input. -/
def fnExactAreBasinsWrong : ChangeSpec := { name := "fnExactAreBasins", fn := fun _ => fun
  | [d] => { results := [.lit (.bool false)], args := [d] }
  | _ => none }
def FnExactAreBasinsWrongFalsely : Prop := fnExactAreBasinsRow.holds Try.pinned (OpenSpec.ofChange fnExactAreBasinsWrong)

/-- 'laws.FnExactIsFlow': WHATEVER THE INPUT: true; the input reads as it did. -/
def fnExactIsFlowSpec : ChangeSpec := { name := "fnExactIsFlow", fn := fun _ => fun
  | [d1, d2] => { results := [.lit (.bool true)], args := [d1, d2] }
  | _ => none }
def fnExactIsFlowRow : OpenClaim := { program := "ytliebicnejbheaa", sum := "7ae65256bf1d922c4637fa43d427d7f9b382c8da78891693047f69caf2c2cf18", func := "loop.example/g00924/laws.FnExactIsFlow", spec := "fnExactIsFlow", apart := false }
def FnExactIsFlowSaid : Prop := fnExactIsFlowRow.holds Try.pinned (OpenSpec.ofChange fnExactIsFlowSpec)

/-- ITS FALSE NEIGHBOUR: 'it returns false'. Refute it at one input. -/
def fnExactIsFlowWrong : ChangeSpec := { name := "fnExactIsFlow", fn := fun _ => fun
  | [d1, d2] => { results := [.lit (.bool false)], args := [d1, d2] }
  | _ => none }
def FnExactIsFlowWrongFalsely : Prop := fnExactIsFlowRow.holds Try.pinned (OpenSpec.ofChange fnExactIsFlowWrong)

/-- 'laws.FnExactMoveWater': WHATEVER THE INPUT: true; the input reads as it did. -/
def fnExactMoveWaterSpec : ChangeSpec := { name := "fnExactMoveWater", fn := fun _ => fun
  | [d1, d2] => { results := [.lit (.bool true)], args := [d1, d2] }
  | _ => none }
def fnExactMoveWaterRow : OpenClaim := { program := "ytliebicnejbheaa", sum := "7ae65256bf1d922c4637fa43d427d7f9b382c8da78891693047f69caf2c2cf18", func := "loop.example/g00924/laws.FnExactMoveWater", spec := "fnExactMoveWater", apart := false }
def FnExactMoveWaterSaid : Prop := fnExactMoveWaterRow.holds Try.pinned (OpenSpec.ofChange fnExactMoveWaterSpec)

/-- ITS FALSE NEIGHBOUR: 'it returns false'. Refute it at one input. -/
def fnExactMoveWaterWrong : ChangeSpec := { name := "fnExactMoveWater", fn := fun _ => fun
  | [d1, d2] => { results := [.lit (.bool false)], args := [d1, d2] }
  | _ => none }
def FnExactMoveWaterWrongFalsely : Prop := fnExactMoveWaterRow.holds Try.pinned (OpenSpec.ofChange fnExactMoveWaterWrong)

/-- 'laws.FnExactRunFlows': WHATEVER THE INPUT: true; the input reads as it did. -/
def fnExactRunFlowsSpec : ChangeSpec := { name := "fnExactRunFlows", fn := fun _ => fun
  | [d1, d2] => { results := [.lit (.bool true)], args := [d1, d2] }
  | _ => none }
def fnExactRunFlowsRow : OpenClaim := { program := "ytliebicnejbheaa", sum := "7ae65256bf1d922c4637fa43d427d7f9b382c8da78891693047f69caf2c2cf18", func := "loop.example/g00924/laws.FnExactRunFlows", spec := "fnExactRunFlows", apart := false }
def FnExactRunFlowsSaid : Prop := fnExactRunFlowsRow.holds Try.pinned (OpenSpec.ofChange fnExactRunFlowsSpec)

/-- ITS FALSE NEIGHBOUR: 'it returns false'. Refute it at one input. -/
def fnExactRunFlowsWrong : ChangeSpec := { name := "fnExactRunFlows", fn := fun _ => fun
  | [d1, d2] => { results := [.lit (.bool false)], args := [d1, d2] }
  | _ => none }
def FnExactRunFlowsWrongFalsely : Prop := fnExactRunFlowsRow.holds Try.pinned (OpenSpec.ofChange fnExactRunFlowsWrong)

/-- 'laws.FnExactTotalWater': WHATEVER THE INPUT: true; the input reads as it did. -/
def fnExactTotalWaterSpec : ChangeSpec := { name := "fnExactTotalWater", fn := fun _ => fun
  | [d] => { results := [.lit (.bool true)], args := [d] }
  | _ => none }
def fnExactTotalWaterRow : OpenClaim := { program := "ytliebicnejbheaa", sum := "7ae65256bf1d922c4637fa43d427d7f9b382c8da78891693047f69caf2c2cf18", func := "loop.example/g00924/laws.FnExactTotalWater", spec := "fnExactTotalWater", apart := false }
def FnExactTotalWaterSaid : Prop := fnExactTotalWaterRow.holds Try.pinned (OpenSpec.ofChange fnExactTotalWaterSpec)

/-- ITS FALSE NEIGHBOUR: 'it returns false'. Refute it at one input. -/
def fnExactTotalWaterWrong : ChangeSpec := { name := "fnExactTotalWater", fn := fun _ => fun
  | [d] => { results := [.lit (.bool false)], args := [d] }
  | _ => none }
def FnExactTotalWaterWrongFalsely : Prop := fnExactTotalWaterRow.holds Try.pinned (OpenSpec.ofChange fnExactTotalWaterWrong)

/-- 'laws.FnExactNetInflow': WHATEVER THE INPUT: true; the input reads as it did. -/
def fnExactNetInflowSpec : ChangeSpec := { name := "fnExactNetInflow", fn := fun _ => fun
  | [d1, d2] => { results := [.lit (.bool true)], args := [d1, d2] }
  | _ => none }
def fnExactNetInflowRow : OpenClaim := { program := "ytliebicnejbheaa", sum := "7ae65256bf1d922c4637fa43d427d7f9b382c8da78891693047f69caf2c2cf18", func := "loop.example/g00924/laws.FnExactNetInflow", spec := "fnExactNetInflow", apart := false }
def FnExactNetInflowSaid : Prop := fnExactNetInflowRow.holds Try.pinned (OpenSpec.ofChange fnExactNetInflowSpec)

/-- ITS FALSE NEIGHBOUR: 'it returns false'. Refute it at one input. -/
def fnExactNetInflowWrong : ChangeSpec := { name := "fnExactNetInflow", fn := fun _ => fun
  | [d1, d2] => { results := [.lit (.bool false)], args := [d1, d2] }
  | _ => none }
def FnExactNetInflowWrongFalsely : Prop := fnExactNetInflowRow.holds Try.pinned (OpenSpec.ofChange fnExactNetInflowWrong)

/-- 'laws.FnExactMostLockages': WHATEVER THE INPUT: true; the input reads as it did. -/
def fnExactMostLockagesSpec : ChangeSpec := { name := "fnExactMostLockages", fn := fun _ => fun
  | [d1, d2, d3, d4] => { results := [.lit (.bool true)], args := [d1, d2, d3, d4] }
  | _ => none }
def fnExactMostLockagesRow : OpenClaim := { program := "ytliebicnejbheaa", sum := "7ae65256bf1d922c4637fa43d427d7f9b382c8da78891693047f69caf2c2cf18", func := "loop.example/g00924/laws.FnExactMostLockages", spec := "fnExactMostLockages", apart := false }
def FnExactMostLockagesSaid : Prop := fnExactMostLockagesRow.holds Try.pinned (OpenSpec.ofChange fnExactMostLockagesSpec)

/-- ITS FALSE NEIGHBOUR: 'it returns false'. Refute it at one input. -/
def fnExactMostLockagesWrong : ChangeSpec := { name := "fnExactMostLockages", fn := fun _ => fun
  | [d1, d2, d3, d4] => { results := [.lit (.bool false)], args := [d1, d2, d3, d4] }
  | _ => none }
def FnExactMostLockagesWrongFalsely : Prop := fnExactMostLockagesRow.holds Try.pinned (OpenSpec.ofChange fnExactMostLockagesWrong)

/-- 'laws.FnExactLevelOut': WHATEVER THE INPUT: true; the input reads as it did. -/
def fnExactLevelOutSpec : ChangeSpec := { name := "fnExactLevelOut", fn := fun _ => fun
  | [d] => { results := [.lit (.bool true)], args := [d] }
  | _ => none }
def fnExactLevelOutRow : OpenClaim := { program := "ytliebicnejbheaa", sum := "7ae65256bf1d922c4637fa43d427d7f9b382c8da78891693047f69caf2c2cf18", func := "loop.example/g00924/laws.FnExactLevelOut", spec := "fnExactLevelOut", unfollowed := true, recurses := true, apart := false }
def FnExactLevelOutSaid : Prop := fnExactLevelOutRow.holds Try.pinned (OpenSpec.ofChange fnExactLevelOutSpec)

/-- ITS FALSE NEIGHBOUR: 'it returns false'. Refute it at one input. -/
def fnExactLevelOutWrong : ChangeSpec := { name := "fnExactLevelOut", fn := fun _ => fun
  | [d] => { results := [.lit (.bool false)], args := [d] }
  | _ => none }
def FnExactLevelOutWrongFalsely : Prop := fnExactLevelOutRow.holds Try.pinned (OpenSpec.ofChange fnExactLevelOutWrong)

/-- 'laws.FnExactRefillNeeded': WHATEVER THE INPUT: true; the input reads as it did. -/
def fnExactRefillNeededSpec : ChangeSpec := { name := "fnExactRefillNeeded", fn := fun _ => fun
  | [d1, d2] => { results := [.lit (.bool true)], args := [d1, d2] }
  | _ => none }
def fnExactRefillNeededRow : OpenClaim := { program := "ytliebicnejbheaa", sum := "7ae65256bf1d922c4637fa43d427d7f9b382c8da78891693047f69caf2c2cf18", func := "loop.example/g00924/laws.FnExactRefillNeeded", spec := "fnExactRefillNeeded", apart := false }
def FnExactRefillNeededSaid : Prop := fnExactRefillNeededRow.holds Try.pinned (OpenSpec.ofChange fnExactRefillNeededSpec)

/-- ITS FALSE NEIGHBOUR: 'it returns false'. Refute it at one input. -/
def fnExactRefillNeededWrong : ChangeSpec := { name := "fnExactRefillNeeded", fn := fun _ => fun
  | [d1, d2] => { results := [.lit (.bool false)], args := [d1, d2] }
  | _ => none }
def FnExactRefillNeededWrongFalsely : Prop := fnExactRefillNeededRow.holds Try.pinned (OpenSpec.ofChange fnExactRefillNeededWrong)

/- THE SECOND FORM. 'bulk': how many values and letters a reading holds, each counted each time it is reached (what is shared counts as often as it is met; a slice's spare places count too). A statement '..UptoSaid' is the law's where the arguments, and the package variables that the reading takes, are together of bulk at most 1048576: NARROWER than '..Said'. Prove '..Said' where nothing that the law and all that it calls make is longer than what came in: it says more and counts as full. Else prove '..UptoSaid'. A law counts once. -/
mutual
def uptoBulk {H : Type} : DataW H → Nat
  | .lit (.string bytes) => bytes.length + 1
  | .lit _ => 1
  | .nil => 1
  | .ptr d => uptoBulk d + 1
  | .slice elems spare => uptoBulkAll elems + uptoBulkAll spare + 1
  | .agg parts => uptoBulkAll parts + 1
  | .iface _ d => uptoBulk d + 1
  | .map entries => uptoBulkEntries entries + 1
  | .held _ => 1
def uptoBulkAll {H : Type} : List (DataW H) → Nat
  | [] => 0
  | d :: r => uptoBulk d + uptoBulkAll r
def uptoBulkEntries {H : Type} : List (Lit × DataW H) → Nat
  | [] => 0
  | x :: r => uptoBulkEntry x + uptoBulkEntries r
def uptoBulkEntry {H : Type} : Lit × DataW H → Nat
  | (.string bytes, d) => bytes.length + uptoBulk d + 1
  | (_, d) => uptoBulk d + 1
 end
def uptoSmall : (H : Type) → List (DataW H) → Bool := fun _ ds => decide (uptoBulkAll ds ≤ 1048576)
def OpenSpec.upto (s : _root_.Go.ChangeSpec) : _root_.Go.OpenSpec := { _root_.Go.OpenSpec.ofChange s with cond := some uptoSmall }

/-- 'laws.FnWater', WHERE WHAT IT READS IS OF BULK AT MOST 1048576: true; the input reads as it did. -/
def fnWaterUptoRow : OpenClaim := { program := "ytliebicnejbheaa", sum := "7ae65256bf1d922c4637fa43d427d7f9b382c8da78891693047f69caf2c2cf18", func := "loop.example/g00924/laws.FnWater", spec := "fnWater", apart := false, narrowed := true }
def FnWaterUptoSaid : Prop := fnWaterUptoRow.holds Try.pinned (OpenSpec.upto fnWaterSpec)

/-- 'laws.FnSupplies', WHERE WHAT IT READS IS OF BULK AT MOST 1048576: true; the input reads as it did. -/
def fnSuppliesUptoRow : OpenClaim := { program := "ytliebicnejbheaa", sum := "7ae65256bf1d922c4637fa43d427d7f9b382c8da78891693047f69caf2c2cf18", func := "loop.example/g00924/laws.FnSupplies", spec := "fnSupplies", unfollowed := true, recurses := true, apart := false, narrowed := true }
def FnSuppliesUptoSaid : Prop := fnSuppliesUptoRow.holds Try.pinned (OpenSpec.upto fnSuppliesSpec)

/-- 'laws.FnExactAreBasins', WHERE WHAT IT READS IS OF BULK AT MOST 1048576: true; the input reads as it did. -/
def fnExactAreBasinsUptoRow : OpenClaim := { program := "ytliebicnejbheaa", sum := "7ae65256bf1d922c4637fa43d427d7f9b382c8da78891693047f69caf2c2cf18", func := "loop.example/g00924/laws.FnExactAreBasins", spec := "fnExactAreBasins", apart := false, narrowed := true }
def FnExactAreBasinsUptoSaid : Prop := fnExactAreBasinsUptoRow.holds Try.pinned (OpenSpec.upto fnExactAreBasinsSpec)

/-- 'laws.FnExactIsFlow', WHERE WHAT IT READS IS OF BULK AT MOST 1048576: true; the input reads as it did. -/
def fnExactIsFlowUptoRow : OpenClaim := { program := "ytliebicnejbheaa", sum := "7ae65256bf1d922c4637fa43d427d7f9b382c8da78891693047f69caf2c2cf18", func := "loop.example/g00924/laws.FnExactIsFlow", spec := "fnExactIsFlow", apart := false, narrowed := true }
def FnExactIsFlowUptoSaid : Prop := fnExactIsFlowUptoRow.holds Try.pinned (OpenSpec.upto fnExactIsFlowSpec)

/-- 'laws.FnExactMoveWater', WHERE WHAT IT READS IS OF BULK AT MOST 1048576: true; the input reads as it did. -/
def fnExactMoveWaterUptoRow : OpenClaim := { program := "ytliebicnejbheaa", sum := "7ae65256bf1d922c4637fa43d427d7f9b382c8da78891693047f69caf2c2cf18", func := "loop.example/g00924/laws.FnExactMoveWater", spec := "fnExactMoveWater", apart := false, narrowed := true }
def FnExactMoveWaterUptoSaid : Prop := fnExactMoveWaterUptoRow.holds Try.pinned (OpenSpec.upto fnExactMoveWaterSpec)

/-- 'laws.FnExactRunFlows', WHERE WHAT IT READS IS OF BULK AT MOST 1048576: true; the input reads as it did. -/
def fnExactRunFlowsUptoRow : OpenClaim := { program := "ytliebicnejbheaa", sum := "7ae65256bf1d922c4637fa43d427d7f9b382c8da78891693047f69caf2c2cf18", func := "loop.example/g00924/laws.FnExactRunFlows", spec := "fnExactRunFlows", apart := false, narrowed := true }
def FnExactRunFlowsUptoSaid : Prop := fnExactRunFlowsUptoRow.holds Try.pinned (OpenSpec.upto fnExactRunFlowsSpec)

/-- 'laws.FnExactTotalWater', WHERE WHAT IT READS IS OF BULK AT MOST 1048576: true; the input reads as it did. -/
def fnExactTotalWaterUptoRow : OpenClaim := { program := "ytliebicnejbheaa", sum := "7ae65256bf1d922c4637fa43d427d7f9b382c8da78891693047f69caf2c2cf18", func := "loop.example/g00924/laws.FnExactTotalWater", spec := "fnExactTotalWater", apart := false, narrowed := true }
def FnExactTotalWaterUptoSaid : Prop := fnExactTotalWaterUptoRow.holds Try.pinned (OpenSpec.upto fnExactTotalWaterSpec)

/-- 'laws.FnExactNetInflow', WHERE WHAT IT READS IS OF BULK AT MOST 1048576: true; the input reads as it did. -/
def fnExactNetInflowUptoRow : OpenClaim := { program := "ytliebicnejbheaa", sum := "7ae65256bf1d922c4637fa43d427d7f9b382c8da78891693047f69caf2c2cf18", func := "loop.example/g00924/laws.FnExactNetInflow", spec := "fnExactNetInflow", apart := false, narrowed := true }
def FnExactNetInflowUptoSaid : Prop := fnExactNetInflowUptoRow.holds Try.pinned (OpenSpec.upto fnExactNetInflowSpec)

/-- 'laws.FnExactMostLockages', WHERE WHAT IT READS IS OF BULK AT MOST 1048576: true; the input reads as it did. -/
def fnExactMostLockagesUptoRow : OpenClaim := { program := "ytliebicnejbheaa", sum := "7ae65256bf1d922c4637fa43d427d7f9b382c8da78891693047f69caf2c2cf18", func := "loop.example/g00924/laws.FnExactMostLockages", spec := "fnExactMostLockages", apart := false, narrowed := true }
def FnExactMostLockagesUptoSaid : Prop := fnExactMostLockagesUptoRow.holds Try.pinned (OpenSpec.upto fnExactMostLockagesSpec)

/-- 'laws.FnExactLevelOut', WHERE WHAT IT READS IS OF BULK AT MOST 1048576: true; the input reads as it did. -/
def fnExactLevelOutUptoRow : OpenClaim := { program := "ytliebicnejbheaa", sum := "7ae65256bf1d922c4637fa43d427d7f9b382c8da78891693047f69caf2c2cf18", func := "loop.example/g00924/laws.FnExactLevelOut", spec := "fnExactLevelOut", unfollowed := true, recurses := true, apart := false, narrowed := true }
def FnExactLevelOutUptoSaid : Prop := fnExactLevelOutUptoRow.holds Try.pinned (OpenSpec.upto fnExactLevelOutSpec)

/-- 'laws.FnExactRefillNeeded', WHERE WHAT IT READS IS OF BULK AT MOST 1048576: true; the input reads as it did. -/
def fnExactRefillNeededUptoRow : OpenClaim := { program := "ytliebicnejbheaa", sum := "7ae65256bf1d922c4637fa43d427d7f9b382c8da78891693047f69caf2c2cf18", func := "loop.example/g00924/laws.FnExactRefillNeeded", spec := "fnExactRefillNeeded", apart := false, narrowed := true }
def FnExactRefillNeededUptoSaid : Prop := fnExactRefillNeededUptoRow.holds Try.pinned (OpenSpec.upto fnExactRefillNeededSpec)

end Rows
end Go.Proofs.Ytliebicnejbheaa
