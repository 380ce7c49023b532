/-
  No cell of these rows narrows 'for every input' (looked for: loops, veiled, ifaces, maps, wideKeys, modest, calm, conditions, laid).
  DERIVED. THE GIVEN ROWS OF THIS SEAT. 12 by the template 'for every input the law returns true; each argument reads behind the call as it read before'; 0 by the template 'total and deterministic' (their statements: YtgnopkemcgbedaaTotals.lean).
  GIVEN WITH THE SEED: the statements are not yours to turn. If you find one false, say at which input.
  Laid BY PROGRAM, IN A SANDBOX (cutbox-rows.mjs): the forced cells as the released guide's own fill.sh prints them over the translation e6f90aafc4812842… (all of the seat's roots in one cut). By AI agents, Wed Nov 11 2026. No macro, syntax, notation, axiom, sorry.
-/
import Derived.Test.YtgnopkemcgbedaaChecked
import GoSem.Claim
import GoSem.ClaimJoined
import GoSem.ClaimMapViews
import Derived.JoinedTies
import Derived.KernelRfl
namespace Go.Proofs.Ytgnopkemcgbedaa
/- THE CELL 'sum', in the pinned program and in every row, IS THE sha256 OF THE DUMP (.gsa) THAT YtgnopkemcgbedaaProg.lean LOADS. Nothing in Lean hashes anything: it is a label: what it is worth is what the hold of that sum in a sandbox is worth. -/
noncomputable def Try.pinned : Pinned := { name := "ytgnopkemcgbedaa", sum := "e6f90aafc48128425e405f547f0dac11dc134e548c31b4c5f67662454e673ad5", checked := Try.checked }
namespace Rows
def none {H : Type} : Left H := { results := [], args := [] }

/-- 'laws.FnPools': WHATEVER THE INPUT: true; the input reads as it did. -/
def fnPoolsSpec : ChangeSpec := { name := "fnPools", fn := fun _ => fun
  | [d] => { results := [.lit (.bool true)], args := [d] }
  | _ => none }
def fnPoolsRow : OpenClaim := { program := "ytgnopkemcgbedaa", sum := "e6f90aafc48128425e405f547f0dac11dc134e548c31b4c5f67662454e673ad5", func := "loop.example/g00924/laws.FnPools", spec := "fnPools", apart := false }
def FnPoolsSaid : Prop := fnPoolsRow.holds Try.pinned (OpenSpec.ofChange fnPoolsSpec)

/-- ITS FALSE NEIGHBOUR: 'it returns false'. Refute it at one input. -/
def fnPoolsWrong : ChangeSpec := { name := "fnPools", fn := fun _ => fun
  | [d] => { results := [.lit (.bool false)], args := [d] }
  | _ => none }
def FnPoolsWrongFalsely : Prop := fnPoolsRow.holds Try.pinned (OpenSpec.ofChange fnPoolsWrong)

/-- 'laws.FnSaving': WHATEVER THE INPUT: true; the input reads as it did. -/
def fnSavingSpec : ChangeSpec := { name := "fnSaving", fn := fun _ => fun
  | [d] => { results := [.lit (.bool true)], args := [d] }
  | _ => none }
def fnSavingRow : OpenClaim := { program := "ytgnopkemcgbedaa", sum := "e6f90aafc48128425e405f547f0dac11dc134e548c31b4c5f67662454e673ad5", func := "loop.example/g00924/laws.FnSaving", spec := "fnSaving", unfollowed := true, recurses := true, apart := false }
def FnSavingSaid : Prop := fnSavingRow.holds Try.pinned (OpenSpec.ofChange fnSavingSpec)

/-- ITS FALSE NEIGHBOUR: 'it returns false'. Refute it at one input. -/
def fnSavingWrong : ChangeSpec := { name := "fnSaving", fn := fun _ => fun
  | [d] => { results := [.lit (.bool false)], args := [d] }
  | _ => none }
def FnSavingWrongFalsely : Prop := fnSavingRow.holds Try.pinned (OpenSpec.ofChange fnSavingWrong)

/-- 'laws.FnExactIsValidPool': WHATEVER THE INPUT: true; the input reads as it did. -/
def fnExactIsValidPoolSpec : ChangeSpec := { name := "fnExactIsValidPool", fn := fun _ => fun
  | [d] => { results := [.lit (.bool true)], args := [d] }
  | _ => none }
def fnExactIsValidPoolRow : OpenClaim := { program := "ytgnopkemcgbedaa", sum := "e6f90aafc48128425e405f547f0dac11dc134e548c31b4c5f67662454e673ad5", func := "loop.example/g00924/laws.FnExactIsValidPool", spec := "fnExactIsValidPool", apart := false }
def FnExactIsValidPoolSaid : Prop := fnExactIsValidPoolRow.holds Try.pinned (OpenSpec.ofChange fnExactIsValidPoolSpec)

/-- ITS FALSE NEIGHBOUR: 'it returns false'. Refute it at one input. -/
def fnExactIsValidPoolWrong : ChangeSpec := { name := "fnExactIsValidPool", fn := fun _ => fun
  | [d] => { results := [.lit (.bool false)], args := [d] }
  | _ => none }
def FnExactIsValidPoolWrongFalsely : Prop := fnExactIsValidPoolRow.holds Try.pinned (OpenSpec.ofChange fnExactIsValidPoolWrong)

/-- 'laws.FnExactArePools': WHATEVER THE INPUT: true; the input reads as it did. -/
def fnExactArePoolsSpec : ChangeSpec := { name := "fnExactArePools", fn := fun _ => fun
  | [d] => { results := [.lit (.bool true)], args := [d] }
  | _ => none }
def fnExactArePoolsRow : OpenClaim := { program := "ytgnopkemcgbedaa", sum := "e6f90aafc48128425e405f547f0dac11dc134e548c31b4c5f67662454e673ad5", func := "loop.example/g00924/laws.FnExactArePools", spec := "fnExactArePools", apart := false }
def FnExactArePoolsSaid : Prop := fnExactArePoolsRow.holds Try.pinned (OpenSpec.ofChange fnExactArePoolsSpec)

/-- ITS FALSE NEIGHBOUR: 'it returns false'. Refute it at one input. -/
def fnExactArePoolsWrong : ChangeSpec := { name := "fnExactArePools", fn := fun _ => fun
  | [d] => { results := [.lit (.bool false)], args := [d] }
  | _ => none }
def FnExactArePoolsWrongFalsely : Prop := fnExactArePoolsRow.holds Try.pinned (OpenSpec.ofChange fnExactArePoolsWrong)

/-- 'laws.FnExactLevelIn': WHATEVER THE INPUT: true; the input reads as it did. -/
def fnExactLevelInSpec : ChangeSpec := { name := "fnExactLevelIn", fn := fun _ => fun
  | [d] => { results := [.lit (.bool true)], args := [d] }
  | _ => none }
def fnExactLevelInRow : OpenClaim := { program := "ytgnopkemcgbedaa", sum := "e6f90aafc48128425e405f547f0dac11dc134e548c31b4c5f67662454e673ad5", func := "loop.example/g00924/laws.FnExactLevelIn", spec := "fnExactLevelIn", apart := false }
def FnExactLevelInSaid : Prop := fnExactLevelInRow.holds Try.pinned (OpenSpec.ofChange fnExactLevelInSpec)

/-- ITS FALSE NEIGHBOUR: 'it returns false'. Refute it at one input. -/
def fnExactLevelInWrong : ChangeSpec := { name := "fnExactLevelIn", fn := fun _ => fun
  | [d] => { results := [.lit (.bool false)], args := [d] }
  | _ => none }
def FnExactLevelInWrongFalsely : Prop := fnExactLevelInRow.holds Try.pinned (OpenSpec.ofChange fnExactLevelInWrong)

/-- 'laws.FnExactFlowBetween': WHATEVER THE INPUT: true; the input reads as it did. -/
def fnExactFlowBetweenSpec : ChangeSpec := { name := "fnExactFlowBetween", fn := fun _ => fun
  | [d1, d2] => { results := [.lit (.bool true)], args := [d1, d2] }
  | _ => none }
def fnExactFlowBetweenRow : OpenClaim := { program := "ytgnopkemcgbedaa", sum := "e6f90aafc48128425e405f547f0dac11dc134e548c31b4c5f67662454e673ad5", func := "loop.example/g00924/laws.FnExactFlowBetween", spec := "fnExactFlowBetween", apart := false }
def FnExactFlowBetweenSaid : Prop := fnExactFlowBetweenRow.holds Try.pinned (OpenSpec.ofChange fnExactFlowBetweenSpec)

/-- ITS FALSE NEIGHBOUR: 'it returns false'. Refute it at one input. -/
def fnExactFlowBetweenWrong : ChangeSpec := { name := "fnExactFlowBetween", fn := fun _ => fun
  | [d1, d2] => { results := [.lit (.bool false)], args := [d1, d2] }
  | _ => none }
def FnExactFlowBetweenWrongFalsely : Prop := fnExactFlowBetweenRow.holds Try.pinned (OpenSpec.ofChange fnExactFlowBetweenWrong)

/-- 'laws.FnExactLetFlow': WHATEVER THE INPUT: true; the input reads as it did. -/
def fnExactLetFlowSpec : ChangeSpec := { name := "fnExactLetFlow", fn := fun _ => fun
  | [d1, d2, d3] => { results := [.lit (.bool true)], args := [d1, d2, d3] }
  | _ => none }
def fnExactLetFlowRow : OpenClaim := { program := "ytgnopkemcgbedaa", sum := "e6f90aafc48128425e405f547f0dac11dc134e548c31b4c5f67662454e673ad5", func := "loop.example/g00924/laws.FnExactLetFlow", spec := "fnExactLetFlow", apart := false }
def FnExactLetFlowSaid : Prop := fnExactLetFlowRow.holds Try.pinned (OpenSpec.ofChange fnExactLetFlowSpec)

/-- ITS FALSE NEIGHBOUR: 'it returns false'. Refute it at one input. -/
def fnExactLetFlowWrong : ChangeSpec := { name := "fnExactLetFlow", fn := fun _ => fun
  | [d1, d2, d3] => { results := [.lit (.bool false)], args := [d1, d2, d3] }
  | _ => none }
def FnExactLetFlowWrongFalsely : Prop := fnExactLetFlowRow.holds Try.pinned (OpenSpec.ofChange fnExactLetFlowWrong)

/-- 'laws.FnExactDrainChamber': WHATEVER THE INPUT: true; the input reads as it did. -/
def fnExactDrainChamberSpec : ChangeSpec := { name := "fnExactDrainChamber", fn := fun _ => fun
  | [d1, d2] => { results := [.lit (.bool true)], args := [d1, d2] }
  | _ => none }
def fnExactDrainChamberRow : OpenClaim := { program := "ytgnopkemcgbedaa", sum := "e6f90aafc48128425e405f547f0dac11dc134e548c31b4c5f67662454e673ad5", func := "loop.example/g00924/laws.FnExactDrainChamber", spec := "fnExactDrainChamber", unfollowed := true, recurses := true, apart := false }
def FnExactDrainChamberSaid : Prop := fnExactDrainChamberRow.holds Try.pinned (OpenSpec.ofChange fnExactDrainChamberSpec)

/-- ITS FALSE NEIGHBOUR: 'it returns false'. Refute it at one input. -/
def fnExactDrainChamberWrong : ChangeSpec := { name := "fnExactDrainChamber", fn := fun _ => fun
  | [d1, d2] => { results := [.lit (.bool false)], args := [d1, d2] }
  | _ => none }
def FnExactDrainChamberWrongFalsely : Prop := fnExactDrainChamberRow.holds Try.pinned (OpenSpec.ofChange fnExactDrainChamberWrong)

/-- 'laws.FnExactFillChamber': WHATEVER THE INPUT: true; the input reads as it did. -/
def fnExactFillChamberSpec : ChangeSpec := { name := "fnExactFillChamber", fn := fun _ => fun
  | [d1, d2] => { results := [.lit (.bool true)], args := [d1, d2] }
  | _ => none }
def fnExactFillChamberRow : OpenClaim := { program := "ytgnopkemcgbedaa", sum := "e6f90aafc48128425e405f547f0dac11dc134e548c31b4c5f67662454e673ad5", func := "loop.example/g00924/laws.FnExactFillChamber", spec := "fnExactFillChamber", unfollowed := true, recurses := true, apart := false }
def FnExactFillChamberSaid : Prop := fnExactFillChamberRow.holds Try.pinned (OpenSpec.ofChange fnExactFillChamberSpec)

/-- ITS FALSE NEIGHBOUR: 'it returns false'. Refute it at one input. -/
def fnExactFillChamberWrong : ChangeSpec := { name := "fnExactFillChamber", fn := fun _ => fun
  | [d1, d2] => { results := [.lit (.bool false)], args := [d1, d2] }
  | _ => none }
def FnExactFillChamberWrongFalsely : Prop := fnExactFillChamberRow.holds Try.pinned (OpenSpec.ofChange fnExactFillChamberWrong)

/-- 'laws.FnExactBestDrain': WHATEVER THE INPUT: true; the input reads as it did. -/
def fnExactBestDrainSpec : ChangeSpec := { name := "fnExactBestDrain", fn := fun _ => fun
  | [d] => { results := [.lit (.bool true)], args := [d] }
  | _ => none }
def fnExactBestDrainRow : OpenClaim := { program := "ytgnopkemcgbedaa", sum := "e6f90aafc48128425e405f547f0dac11dc134e548c31b4c5f67662454e673ad5", func := "loop.example/g00924/laws.FnExactBestDrain", spec := "fnExactBestDrain", unfollowed := true, recurses := true, apart := false }
def FnExactBestDrainSaid : Prop := fnExactBestDrainRow.holds Try.pinned (OpenSpec.ofChange fnExactBestDrainSpec)

/-- ITS FALSE NEIGHBOUR: 'it returns false'. Refute it at one input. -/
def fnExactBestDrainWrong : ChangeSpec := { name := "fnExactBestDrain", fn := fun _ => fun
  | [d] => { results := [.lit (.bool false)], args := [d] }
  | _ => none }
def FnExactBestDrainWrongFalsely : Prop := fnExactBestDrainRow.holds Try.pinned (OpenSpec.ofChange fnExactBestDrainWrong)

/-- 'laws.FnExactSavedShare': WHATEVER THE INPUT: true; the input reads as it did. -/
def fnExactSavedShareSpec : ChangeSpec := { name := "fnExactSavedShare", fn := fun _ => fun
  | [d1, d2] => { results := [.lit (.bool true)], args := [d1, d2] }
  | _ => none }
def fnExactSavedShareRow : OpenClaim := { program := "ytgnopkemcgbedaa", sum := "e6f90aafc48128425e405f547f0dac11dc134e548c31b4c5f67662454e673ad5", func := "loop.example/g00924/laws.FnExactSavedShare", spec := "fnExactSavedShare", unfollowed := true, recurses := true, apart := false }
def FnExactSavedShareSaid : Prop := fnExactSavedShareRow.holds Try.pinned (OpenSpec.ofChange fnExactSavedShareSpec)

/-- ITS FALSE NEIGHBOUR: 'it returns false'. Refute it at one input. -/
def fnExactSavedShareWrong : ChangeSpec := { name := "fnExactSavedShare", fn := fun _ => fun
  | [d1, d2] => { results := [.lit (.bool false)], args := [d1, d2] }
  | _ => none }
def FnExactSavedShareWrongFalsely : Prop := fnExactSavedShareRow.holds Try.pinned (OpenSpec.ofChange fnExactSavedShareWrong)

/-- 'laws.FnExactAllWater': WHATEVER THE INPUT: true; the input reads as it did. -/
def fnExactAllWaterSpec : ChangeSpec := { name := "fnExactAllWater", fn := fun _ => fun
  | [d] => { results := [.lit (.bool true)], args := [d] }
  | _ => none }
def fnExactAllWaterRow : OpenClaim := { program := "ytgnopkemcgbedaa", sum := "e6f90aafc48128425e405f547f0dac11dc134e548c31b4c5f67662454e673ad5", func := "loop.example/g00924/laws.FnExactAllWater", spec := "fnExactAllWater", apart := false }
def FnExactAllWaterSaid : Prop := fnExactAllWaterRow.holds Try.pinned (OpenSpec.ofChange fnExactAllWaterSpec)

/-- ITS FALSE NEIGHBOUR: 'it returns false'. Refute it at one input. -/
def fnExactAllWaterWrong : ChangeSpec := { name := "fnExactAllWater", fn := fun _ => fun
  | [d] => { results := [.lit (.bool false)], args := [d] }
  | _ => none }
def FnExactAllWaterWrongFalsely : Prop := fnExactAllWaterRow.holds Try.pinned (OpenSpec.ofChange fnExactAllWaterWrong)

/- THE SECOND FORM. 'bulk': how many values and letters a reading holds, each counted each time it is reached (what is shared counts as often as it is met; a slice's spare places count too). A statement '..UptoSaid' is the law's where the arguments, and the package variables that the reading takes, are together of bulk at most 1048576: NARROWER than '..Said'. Prove '..Said' where nothing that the law and all that it calls make is longer than what came in: it says more and counts as full. Else prove '..UptoSaid'. A law counts once. -/
mutual
def uptoBulk {H : Type} : DataW H → Nat
  | .lit (.string bytes) => bytes.length + 1
  | .lit _ => 1
  | .nil => 1
  | .ptr d => uptoBulk d + 1
  | .slice elems spare => uptoBulkAll elems + uptoBulkAll spare + 1
  | .agg parts => uptoBulkAll parts + 1
  | .iface _ d => uptoBulk d + 1
  | .map entries => uptoBulkEntries entries + 1
  | .held _ => 1
def uptoBulkAll {H : Type} : List (DataW H) → Nat
  | [] => 0
  | d :: r => uptoBulk d + uptoBulkAll r
def uptoBulkEntries {H : Type} : List (Lit × DataW H) → Nat
  | [] => 0
  | x :: r => uptoBulkEntry x + uptoBulkEntries r
def uptoBulkEntry {H : Type} : Lit × DataW H → Nat
  | (.string bytes, d) => bytes.length + uptoBulk d + 1
  | (_, d) => uptoBulk d + 1
 end
def uptoSmall : (H : Type) → List (DataW H) → Bool := fun _ ds => decide (uptoBulkAll ds ≤ 1048576)
def OpenSpec.upto (s : _root_.Go.ChangeSpec) : _root_.Go.OpenSpec := { _root_.Go.OpenSpec.ofChange s with cond := some uptoSmall }

/-- 'laws.FnPools', WHERE WHAT IT READS IS OF BULK AT MOST 1048576: true; the input reads as it did. -/
def fnPoolsUptoRow : OpenClaim := { program := "ytgnopkemcgbedaa", sum := "e6f90aafc48128425e405f547f0dac11dc134e548c31b4c5f67662454e673ad5", func := "loop.example/g00924/laws.FnPools", spec := "fnPools", apart := false, narrowed := true }
def FnPoolsUptoSaid : Prop := fnPoolsUptoRow.holds Try.pinned (OpenSpec.upto fnPoolsSpec)

/-- 'laws.FnSaving', WHERE WHAT IT READS IS OF BULK AT MOST 1048576: true; the input reads as it did. -/
def fnSavingUptoRow : OpenClaim := { program := "ytgnopkemcgbedaa", sum := "e6f90aafc48128425e405f547f0dac11dc134e548c31b4c5f67662454e673ad5", func := "loop.example/g00924/laws.FnSaving", spec := "fnSaving", unfollowed := true, recurses := true, apart := false, narrowed := true }
def FnSavingUptoSaid : Prop := fnSavingUptoRow.holds Try.pinned (OpenSpec.upto fnSavingSpec)

/-- 'laws.FnExactIsValidPool', WHERE WHAT IT READS IS OF BULK AT MOST 1048576: true; the input reads as it did. -/
def fnExactIsValidPoolUptoRow : OpenClaim := { program := "ytgnopkemcgbedaa", sum := "e6f90aafc48128425e405f547f0dac11dc134e548c31b4c5f67662454e673ad5", func := "loop.example/g00924/laws.FnExactIsValidPool", spec := "fnExactIsValidPool", apart := false, narrowed := true }
def FnExactIsValidPoolUptoSaid : Prop := fnExactIsValidPoolUptoRow.holds Try.pinned (OpenSpec.upto fnExactIsValidPoolSpec)

/-- 'laws.FnExactArePools', WHERE WHAT IT READS IS OF BULK AT MOST 1048576: true; the input reads as it did. -/
def fnExactArePoolsUptoRow : OpenClaim := { program := "ytgnopkemcgbedaa", sum := "e6f90aafc48128425e405f547f0dac11dc134e548c31b4c5f67662454e673ad5", func := "loop.example/g00924/laws.FnExactArePools", spec := "fnExactArePools", apart := false, narrowed := true }
def FnExactArePoolsUptoSaid : Prop := fnExactArePoolsUptoRow.holds Try.pinned (OpenSpec.upto fnExactArePoolsSpec)

/-- 'laws.FnExactLevelIn', WHERE WHAT IT READS IS OF BULK AT MOST 1048576: true; the input reads as it did. -/
def fnExactLevelInUptoRow : OpenClaim := { program := "ytgnopkemcgbedaa", sum := "e6f90aafc48128425e405f547f0dac11dc134e548c31b4c5f67662454e673ad5", func := "loop.example/g00924/laws.FnExactLevelIn", spec := "fnExactLevelIn", apart := false, narrowed := true }
def FnExactLevelInUptoSaid : Prop := fnExactLevelInUptoRow.holds Try.pinned (OpenSpec.upto fnExactLevelInSpec)

/-- 'laws.FnExactFlowBetween', WHERE WHAT IT READS IS OF BULK AT MOST 1048576: true; the input reads as it did. -/
def fnExactFlowBetweenUptoRow : OpenClaim := { program := "ytgnopkemcgbedaa", sum := "e6f90aafc48128425e405f547f0dac11dc134e548c31b4c5f67662454e673ad5", func := "loop.example/g00924/laws.FnExactFlowBetween", spec := "fnExactFlowBetween", apart := false, narrowed := true }
def FnExactFlowBetweenUptoSaid : Prop := fnExactFlowBetweenUptoRow.holds Try.pinned (OpenSpec.upto fnExactFlowBetweenSpec)

/-- 'laws.FnExactLetFlow', WHERE WHAT IT READS IS OF BULK AT MOST 1048576: true; the input reads as it did. -/
def fnExactLetFlowUptoRow : OpenClaim := { program := "ytgnopkemcgbedaa", sum := "e6f90aafc48128425e405f547f0dac11dc134e548c31b4c5f67662454e673ad5", func := "loop.example/g00924/laws.FnExactLetFlow", spec := "fnExactLetFlow", apart := false, narrowed := true }
def FnExactLetFlowUptoSaid : Prop := fnExactLetFlowUptoRow.holds Try.pinned (OpenSpec.upto fnExactLetFlowSpec)

/-- 'laws.FnExactDrainChamber', WHERE WHAT IT READS IS OF BULK AT MOST 1048576: true; the input reads as it did. -/
def fnExactDrainChamberUptoRow : OpenClaim := { program := "ytgnopkemcgbedaa", sum := "e6f90aafc48128425e405f547f0dac11dc134e548c31b4c5f67662454e673ad5", func := "loop.example/g00924/laws.FnExactDrainChamber", spec := "fnExactDrainChamber", unfollowed := true, recurses := true, apart := false, narrowed := true }
def FnExactDrainChamberUptoSaid : Prop := fnExactDrainChamberUptoRow.holds Try.pinned (OpenSpec.upto fnExactDrainChamberSpec)

/-- 'laws.FnExactFillChamber', WHERE WHAT IT READS IS OF BULK AT MOST 1048576: true; the input reads as it did. -/
def fnExactFillChamberUptoRow : OpenClaim := { program := "ytgnopkemcgbedaa", sum := "e6f90aafc48128425e405f547f0dac11dc134e548c31b4c5f67662454e673ad5", func := "loop.example/g00924/laws.FnExactFillChamber", spec := "fnExactFillChamber", unfollowed := true, recurses := true, apart := false, narrowed := true }
def FnExactFillChamberUptoSaid : Prop := fnExactFillChamberUptoRow.holds Try.pinned (OpenSpec.upto fnExactFillChamberSpec)

/-- 'laws.FnExactBestDrain', WHERE WHAT IT READS IS OF BULK AT MOST 1048576: true; the input reads as it did. -/
def fnExactBestDrainUptoRow : OpenClaim := { program := "ytgnopkemcgbedaa", sum := "e6f90aafc48128425e405f547f0dac11dc134e548c31b4c5f67662454e673ad5", func := "loop.example/g00924/laws.FnExactBestDrain", spec := "fnExactBestDrain", unfollowed := true, recurses := true, apart := false, narrowed := true }
def FnExactBestDrainUptoSaid : Prop := fnExactBestDrainUptoRow.holds Try.pinned (OpenSpec.upto fnExactBestDrainSpec)

/-- 'laws.FnExactSavedShare', WHERE WHAT IT READS IS OF BULK AT MOST 1048576: true; the input reads as it did. -/
def fnExactSavedShareUptoRow : OpenClaim := { program := "ytgnopkemcgbedaa", sum := "e6f90aafc48128425e405f547f0dac11dc134e548c31b4c5f67662454e673ad5", func := "loop.example/g00924/laws.FnExactSavedShare", spec := "fnExactSavedShare", unfollowed := true, recurses := true, apart := false, narrowed := true }
def FnExactSavedShareUptoSaid : Prop := fnExactSavedShareUptoRow.holds Try.pinned (OpenSpec.upto fnExactSavedShareSpec)

/-- 'laws.FnExactAllWater', WHERE WHAT IT READS IS OF BULK AT MOST 1048576: true; the input reads as it did. -/
def fnExactAllWaterUptoRow : OpenClaim := { program := "ytgnopkemcgbedaa", sum := "e6f90aafc48128425e405f547f0dac11dc134e548c31b4c5f67662454e673ad5", func := "loop.example/g00924/laws.FnExactAllWater", spec := "fnExactAllWater", apart := false, narrowed := true }
def FnExactAllWaterUptoSaid : Prop := fnExactAllWaterUptoRow.holds Try.pinned (OpenSpec.upto fnExactAllWaterSpec)

end Rows
end Go.Proofs.Ytgnopkemcgbedaa
