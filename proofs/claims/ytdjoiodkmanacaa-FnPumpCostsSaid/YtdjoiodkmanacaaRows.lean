/-
  No cell of these rows narrows 'for every input' (looked for: loops, veiled, ifaces, maps, wideKeys, modest, calm, conditions, laid).
  DERIVED. THE GIVEN ROWS OF THIS SEAT. 11 by the template 'for every input the law returns true; each argument reads behind the call as it read before'; 0 by the template 'total and deterministic' (their statements: YtdjoiodkmanacaaTotals.lean).
  GIVEN WITH THE SEED: the statements are not yours to turn. If you find one false, say at which input.
  Laid BY PROGRAM, IN A SANDBOX (cutbox-rows.mjs): the forced cells as the released guide's own fill.sh prints them over the translation 1f32e4c2997ec19d… (all of the seat's roots in one cut). By AI agents, Wed Nov 11 2026. No macro, syntax, notation, axiom, sorry.
-/
import Derived.Test.YtdjoiodkmanacaaChecked
import GoSem.Claim
import GoSem.ClaimJoined
import GoSem.ClaimMapViews
import Derived.JoinedTies
import Derived.KernelRfl
namespace Go.Proofs.Ytdjoiodkmanacaa
/- THE CELL 'sum', in the pinned program and in every row, IS THE sha256 OF THE DUMP (.gsa) THAT YtdjoiodkmanacaaProg.lean LOADS. Nothing in Lean hashes anything: it is a label: what it is worth is what the hold of that sum in a sandbox is worth. -/
noncomputable def Try.pinned : Pinned := { name := "ytdjoiodkmanacaa", sum := "1f32e4c2997ec19dd4afd8b5ffcaa0ea7ba6ba743dd6c3c2f56844d46a890e9f", checked := Try.checked }
namespace Rows
def none {H : Type} : Left H := { results := [], args := [] }

/-- 'laws.FnPumps': WHATEVER THE INPUT: true; the input reads as it did. -/
def fnPumpsSpec : ChangeSpec := { name := "fnPumps", fn := fun _ => fun
  | [d] => { results := [.lit (.bool true)], args := [d] }
  | _ => none }
def fnPumpsRow : OpenClaim := { program := "ytdjoiodkmanacaa", sum := "1f32e4c2997ec19dd4afd8b5ffcaa0ea7ba6ba743dd6c3c2f56844d46a890e9f", func := "loop.example/g00924/laws.FnPumps", spec := "fnPumps", unfollowed := true, recurses := true, apart := false }
def FnPumpsSaid : Prop := fnPumpsRow.holds Try.pinned (OpenSpec.ofChange fnPumpsSpec)

/-- ITS FALSE NEIGHBOUR: 'it returns false'. Refute it at one input. -/
def fnPumpsWrong : ChangeSpec := { name := "fnPumps", fn := fun _ => fun
  | [d] => { results := [.lit (.bool false)], args := [d] }
  | _ => none }
def FnPumpsWrongFalsely : Prop := fnPumpsRow.holds Try.pinned (OpenSpec.ofChange fnPumpsWrong)

/-- 'laws.FnPumpCosts': WHATEVER THE INPUT: true; the input reads as it did. -/
def fnPumpCostsSpec : ChangeSpec := { name := "fnPumpCosts", fn := fun _ => fun
  | [d] => { results := [.lit (.bool true)], args := [d] }
  | _ => none }
def fnPumpCostsRow : OpenClaim := { program := "ytdjoiodkmanacaa", sum := "1f32e4c2997ec19dd4afd8b5ffcaa0ea7ba6ba743dd6c3c2f56844d46a890e9f", func := "loop.example/g00924/laws.FnPumpCosts", spec := "fnPumpCosts", unfollowed := true, recurses := true, apart := false }
def FnPumpCostsSaid : Prop := fnPumpCostsRow.holds Try.pinned (OpenSpec.ofChange fnPumpCostsSpec)

/-- ITS FALSE NEIGHBOUR: 'it returns false'. Refute it at one input. -/
def fnPumpCostsWrong : ChangeSpec := { name := "fnPumpCosts", fn := fun _ => fun
  | [d] => { results := [.lit (.bool false)], args := [d] }
  | _ => none }
def FnPumpCostsWrongFalsely : Prop := fnPumpCostsRow.holds Try.pinned (OpenSpec.ofChange fnPumpCostsWrong)

/-- 'laws.FnExactIsPumpTask': WHATEVER THE INPUT: true; the input reads as it did. -/
def fnExactIsPumpTaskSpec : ChangeSpec := { name := "fnExactIsPumpTask", fn := fun _ => fun
  | [d] => { results := [.lit (.bool true)], args := [d] }
  | _ => none }
def fnExactIsPumpTaskRow : OpenClaim := { program := "ytdjoiodkmanacaa", sum := "1f32e4c2997ec19dd4afd8b5ffcaa0ea7ba6ba743dd6c3c2f56844d46a890e9f", func := "loop.example/g00924/laws.FnExactIsPumpTask", spec := "fnExactIsPumpTask", apart := false }
def FnExactIsPumpTaskSaid : Prop := fnExactIsPumpTaskRow.holds Try.pinned (OpenSpec.ofChange fnExactIsPumpTaskSpec)

/-- ITS FALSE NEIGHBOUR: 'it returns false'. Refute it at one input. -/
def fnExactIsPumpTaskWrong : ChangeSpec := { name := "fnExactIsPumpTask", fn := fun _ => fun
  | [d] => { results := [.lit (.bool false)], args := [d] }
  | _ => none }
def FnExactIsPumpTaskWrongFalsely : Prop := fnExactIsPumpTaskRow.holds Try.pinned (OpenSpec.ofChange fnExactIsPumpTaskWrong)

/-- 'laws.FnExactLevelsWith': WHATEVER THE INPUT: true; the input reads as it did. -/
def fnExactLevelsWithSpec : ChangeSpec := { name := "fnExactLevelsWith", fn := fun _ => fun
  | [d1, d2] => { results := [.lit (.bool true)], args := [d1, d2] }
  | _ => none }
def fnExactLevelsWithRow : OpenClaim := { program := "ytdjoiodkmanacaa", sum := "1f32e4c2997ec19dd4afd8b5ffcaa0ea7ba6ba743dd6c3c2f56844d46a890e9f", func := "loop.example/g00924/laws.FnExactLevelsWith", spec := "fnExactLevelsWith", unfollowed := true, recurses := true, apart := false }
def FnExactLevelsWithSaid : Prop := fnExactLevelsWithRow.holds Try.pinned (OpenSpec.ofChange fnExactLevelsWithSpec)

/-- ITS FALSE NEIGHBOUR: 'it returns false'. Refute it at one input. -/
def fnExactLevelsWithWrong : ChangeSpec := { name := "fnExactLevelsWith", fn := fun _ => fun
  | [d1, d2] => { results := [.lit (.bool false)], args := [d1, d2] }
  | _ => none }
def FnExactLevelsWithWrongFalsely : Prop := fnExactLevelsWithRow.holds Try.pinned (OpenSpec.ofChange fnExactLevelsWithWrong)

/-- 'laws.FnExactIsSafePlan': WHATEVER THE INPUT: true; the input reads as it did. -/
def fnExactIsSafePlanSpec : ChangeSpec := { name := "fnExactIsSafePlan", fn := fun _ => fun
  | [d1, d2] => { results := [.lit (.bool true)], args := [d1, d2] }
  | _ => none }
def fnExactIsSafePlanRow : OpenClaim := { program := "ytdjoiodkmanacaa", sum := "1f32e4c2997ec19dd4afd8b5ffcaa0ea7ba6ba743dd6c3c2f56844d46a890e9f", func := "loop.example/g00924/laws.FnExactIsSafePlan", spec := "fnExactIsSafePlan", unfollowed := true, recurses := true, apart := false }
def FnExactIsSafePlanSaid : Prop := fnExactIsSafePlanRow.holds Try.pinned (OpenSpec.ofChange fnExactIsSafePlanSpec)

/-- ITS FALSE NEIGHBOUR: 'it returns false'. Refute it at one input. -/
def fnExactIsSafePlanWrong : ChangeSpec := { name := "fnExactIsSafePlan", fn := fun _ => fun
  | [d1, d2] => { results := [.lit (.bool false)], args := [d1, d2] }
  | _ => none }
def FnExactIsSafePlanWrongFalsely : Prop := fnExactIsSafePlanRow.holds Try.pinned (OpenSpec.ofChange fnExactIsSafePlanWrong)

/-- 'laws.FnExactPlanCost': WHATEVER THE INPUT: true; the input reads as it did. -/
def fnExactPlanCostSpec : ChangeSpec := { name := "fnExactPlanCost", fn := fun _ => fun
  | [d1, d2] => { results := [.lit (.bool true)], args := [d1, d2] }
  | _ => none }
def fnExactPlanCostRow : OpenClaim := { program := "ytdjoiodkmanacaa", sum := "1f32e4c2997ec19dd4afd8b5ffcaa0ea7ba6ba743dd6c3c2f56844d46a890e9f", func := "loop.example/g00924/laws.FnExactPlanCost", spec := "fnExactPlanCost", unfollowed := true, recurses := true, apart := false }
def FnExactPlanCostSaid : Prop := fnExactPlanCostRow.holds Try.pinned (OpenSpec.ofChange fnExactPlanCostSpec)

/-- ITS FALSE NEIGHBOUR: 'it returns false'. Refute it at one input. -/
def fnExactPlanCostWrong : ChangeSpec := { name := "fnExactPlanCost", fn := fun _ => fun
  | [d1, d2] => { results := [.lit (.bool false)], args := [d1, d2] }
  | _ => none }
def FnExactPlanCostWrongFalsely : Prop := fnExactPlanCostRow.holds Try.pinned (OpenSpec.ofChange fnExactPlanCostWrong)

/-- 'laws.FnExactCheapestPlan': WHATEVER THE INPUT: true; the input reads as it did. -/
def fnExactCheapestPlanSpec : ChangeSpec := { name := "fnExactCheapestPlan", fn := fun _ => fun
  | [d] => { results := [.lit (.bool true)], args := [d] }
  | _ => none }
def fnExactCheapestPlanRow : OpenClaim := { program := "ytdjoiodkmanacaa", sum := "1f32e4c2997ec19dd4afd8b5ffcaa0ea7ba6ba743dd6c3c2f56844d46a890e9f", func := "loop.example/g00924/laws.FnExactCheapestPlan", spec := "fnExactCheapestPlan", unfollowed := true, recurses := true, apart := false }
def FnExactCheapestPlanSaid : Prop := fnExactCheapestPlanRow.holds Try.pinned (OpenSpec.ofChange fnExactCheapestPlanSpec)

/-- ITS FALSE NEIGHBOUR: 'it returns false'. Refute it at one input. -/
def fnExactCheapestPlanWrong : ChangeSpec := { name := "fnExactCheapestPlan", fn := fun _ => fun
  | [d] => { results := [.lit (.bool false)], args := [d] }
  | _ => none }
def FnExactCheapestPlanWrongFalsely : Prop := fnExactCheapestPlanRow.holds Try.pinned (OpenSpec.ofChange fnExactCheapestPlanWrong)

/-- 'laws.FnExactCountStarts': WHATEVER THE INPUT: true; the input reads as it did. -/
def fnExactCountStartsSpec : ChangeSpec := { name := "fnExactCountStarts", fn := fun _ => fun
  | [d1, d2] => { results := [.lit (.bool true)], args := [d1, d2] }
  | _ => none }
def fnExactCountStartsRow : OpenClaim := { program := "ytdjoiodkmanacaa", sum := "1f32e4c2997ec19dd4afd8b5ffcaa0ea7ba6ba743dd6c3c2f56844d46a890e9f", func := "loop.example/g00924/laws.FnExactCountStarts", spec := "fnExactCountStarts", apart := false }
def FnExactCountStartsSaid : Prop := fnExactCountStartsRow.holds Try.pinned (OpenSpec.ofChange fnExactCountStartsSpec)

/-- ITS FALSE NEIGHBOUR: 'it returns false'. Refute it at one input. -/
def fnExactCountStartsWrong : ChangeSpec := { name := "fnExactCountStarts", fn := fun _ => fun
  | [d1, d2] => { results := [.lit (.bool false)], args := [d1, d2] }
  | _ => none }
def FnExactCountStartsWrongFalsely : Prop := fnExactCountStartsRow.holds Try.pinned (OpenSpec.ofChange fnExactCountStartsWrong)

/-- 'laws.FnExactFirstUnsafe': WHATEVER THE INPUT: true; the input reads as it did. -/
def fnExactFirstUnsafeSpec : ChangeSpec := { name := "fnExactFirstUnsafe", fn := fun _ => fun
  | [d1, d2] => { results := [.lit (.bool true)], args := [d1, d2] }
  | _ => none }
def fnExactFirstUnsafeRow : OpenClaim := { program := "ytdjoiodkmanacaa", sum := "1f32e4c2997ec19dd4afd8b5ffcaa0ea7ba6ba743dd6c3c2f56844d46a890e9f", func := "loop.example/g00924/laws.FnExactFirstUnsafe", spec := "fnExactFirstUnsafe", unfollowed := true, recurses := true, apart := false }
def FnExactFirstUnsafeSaid : Prop := fnExactFirstUnsafeRow.holds Try.pinned (OpenSpec.ofChange fnExactFirstUnsafeSpec)

/-- ITS FALSE NEIGHBOUR: 'it returns false'. Refute it at one input. -/
def fnExactFirstUnsafeWrong : ChangeSpec := { name := "fnExactFirstUnsafe", fn := fun _ => fun
  | [d1, d2] => { results := [.lit (.bool false)], args := [d1, d2] }
  | _ => none }
def FnExactFirstUnsafeWrongFalsely : Prop := fnExactFirstUnsafeRow.holds Try.pinned (OpenSpec.ofChange fnExactFirstUnsafeWrong)

/-- 'laws.FnExactPumpedWater': WHATEVER THE INPUT: true; the input reads as it did. -/
def fnExactPumpedWaterSpec : ChangeSpec := { name := "fnExactPumpedWater", fn := fun _ => fun
  | [d1, d2] => { results := [.lit (.bool true)], args := [d1, d2] }
  | _ => none }
def fnExactPumpedWaterRow : OpenClaim := { program := "ytdjoiodkmanacaa", sum := "1f32e4c2997ec19dd4afd8b5ffcaa0ea7ba6ba743dd6c3c2f56844d46a890e9f", func := "loop.example/g00924/laws.FnExactPumpedWater", spec := "fnExactPumpedWater", unfollowed := true, recurses := true, apart := false }
def FnExactPumpedWaterSaid : Prop := fnExactPumpedWaterRow.holds Try.pinned (OpenSpec.ofChange fnExactPumpedWaterSpec)

/-- ITS FALSE NEIGHBOUR: 'it returns false'. Refute it at one input. -/
def fnExactPumpedWaterWrong : ChangeSpec := { name := "fnExactPumpedWater", fn := fun _ => fun
  | [d1, d2] => { results := [.lit (.bool false)], args := [d1, d2] }
  | _ => none }
def FnExactPumpedWaterWrongFalsely : Prop := fnExactPumpedWaterRow.holds Try.pinned (OpenSpec.ofChange fnExactPumpedWaterWrong)

/-- 'laws.FnExactWithoutPump': WHATEVER THE INPUT: true; the input reads as it did. -/
def fnExactWithoutPumpSpec : ChangeSpec := { name := "fnExactWithoutPump", fn := fun _ => fun
  | [d1, d2] => { results := [.lit (.bool true)], args := [d1, d2] }
  | _ => none }
def fnExactWithoutPumpRow : OpenClaim := { program := "ytdjoiodkmanacaa", sum := "1f32e4c2997ec19dd4afd8b5ffcaa0ea7ba6ba743dd6c3c2f56844d46a890e9f", func := "loop.example/g00924/laws.FnExactWithoutPump", spec := "fnExactWithoutPump", apart := false }
def FnExactWithoutPumpSaid : Prop := fnExactWithoutPumpRow.holds Try.pinned (OpenSpec.ofChange fnExactWithoutPumpSpec)

/-- ITS FALSE NEIGHBOUR: 'it returns false'. Refute it at one input. -/
def fnExactWithoutPumpWrong : ChangeSpec := { name := "fnExactWithoutPump", fn := fun _ => fun
  | [d1, d2] => { results := [.lit (.bool false)], args := [d1, d2] }
  | _ => none }
def FnExactWithoutPumpWrongFalsely : Prop := fnExactWithoutPumpRow.holds Try.pinned (OpenSpec.ofChange fnExactWithoutPumpWrong)

/- THE SECOND FORM. 'bulk': how many values and letters a reading holds, each counted each time it is reached (what is shared counts as often as it is met; a slice's spare places count too). A statement '..UptoSaid' is the law's where the arguments, and the package variables that the reading takes, are together of bulk at most 1048576: NARROWER than '..Said'. Prove '..Said' where nothing that the law and all that it calls make is longer than what came in: it says more and counts as full. Else prove '..UptoSaid'. A law counts once. -/
mutual
def uptoBulk {H : Type} : DataW H → Nat
  | .lit (.string bytes) => bytes.length + 1
  | .lit _ => 1
  | .nil => 1
  | .ptr d => uptoBulk d + 1
  | .slice elems spare => uptoBulkAll elems + uptoBulkAll spare + 1
  | .agg parts => uptoBulkAll parts + 1
  | .iface _ d => uptoBulk d + 1
  | .map entries => uptoBulkEntries entries + 1
  | .held _ => 1
def uptoBulkAll {H : Type} : List (DataW H) → Nat
  | [] => 0
  | d :: r => uptoBulk d + uptoBulkAll r
def uptoBulkEntries {H : Type} : List (Lit × DataW H) → Nat
  | [] => 0
  | x :: r => uptoBulkEntry x + uptoBulkEntries r
def uptoBulkEntry {H : Type} : Lit × DataW H → Nat
  | (.string bytes, d) => bytes.length + uptoBulk d + 1
  | (_, d) => uptoBulk d + 1
 end
def uptoSmall : (H : Type) → List (DataW H) → Bool := fun _ ds => decide (uptoBulkAll ds ≤ 1048576)
def OpenSpec.upto (s : _root_.Go.ChangeSpec) : _root_.Go.OpenSpec := { _root_.Go.OpenSpec.ofChange s with cond := some uptoSmall }

/-- 'laws.FnPumps', WHERE WHAT IT READS IS OF BULK AT MOST 1048576: true; the input reads as it did. -/
def fnPumpsUptoRow : OpenClaim := { program := "ytdjoiodkmanacaa", sum := "1f32e4c2997ec19dd4afd8b5ffcaa0ea7ba6ba743dd6c3c2f56844d46a890e9f", func := "loop.example/g00924/laws.FnPumps", spec := "fnPumps", unfollowed := true, recurses := true, apart := false, narrowed := true }
def FnPumpsUptoSaid : Prop := fnPumpsUptoRow.holds Try.pinned (OpenSpec.upto fnPumpsSpec)

/-- 'laws.FnPumpCosts', WHERE WHAT IT READS IS OF BULK AT MOST 1048576: true; the input reads as it did. -/
def fnPumpCostsUptoRow : OpenClaim := { program := "ytdjoiodkmanacaa", sum := "1f32e4c2997ec19dd4afd8b5ffcaa0ea7ba6ba743dd6c3c2f56844d46a890e9f", func := "loop.example/g00924/laws.FnPumpCosts", spec := "fnPumpCosts", unfollowed := true, recurses := true, apart := false, narrowed := true }
def FnPumpCostsUptoSaid : Prop := fnPumpCostsUptoRow.holds Try.pinned (OpenSpec.upto fnPumpCostsSpec)

/-- 'laws.FnExactIsPumpTask', WHERE WHAT IT READS IS OF BULK AT MOST 1048576: true; the input reads as it did. -/
def fnExactIsPumpTaskUptoRow : OpenClaim := { program := "ytdjoiodkmanacaa", sum := "1f32e4c2997ec19dd4afd8b5ffcaa0ea7ba6ba743dd6c3c2f56844d46a890e9f", func := "loop.example/g00924/laws.FnExactIsPumpTask", spec := "fnExactIsPumpTask", apart := false, narrowed := true }
def FnExactIsPumpTaskUptoSaid : Prop := fnExactIsPumpTaskUptoRow.holds Try.pinned (OpenSpec.upto fnExactIsPumpTaskSpec)

/-- 'laws.FnExactLevelsWith', WHERE WHAT IT READS IS OF BULK AT MOST 1048576: true; the input reads as it did. -/
def fnExactLevelsWithUptoRow : OpenClaim := { program := "ytdjoiodkmanacaa", sum := "1f32e4c2997ec19dd4afd8b5ffcaa0ea7ba6ba743dd6c3c2f56844d46a890e9f", func := "loop.example/g00924/laws.FnExactLevelsWith", spec := "fnExactLevelsWith", unfollowed := true, recurses := true, apart := false, narrowed := true }
def FnExactLevelsWithUptoSaid : Prop := fnExactLevelsWithUptoRow.holds Try.pinned (OpenSpec.upto fnExactLevelsWithSpec)

/-- 'laws.FnExactIsSafePlan', WHERE WHAT IT READS IS OF BULK AT MOST 1048576: true; the input reads as it did. -/
def fnExactIsSafePlanUptoRow : OpenClaim := { program := "ytdjoiodkmanacaa", sum := "1f32e4c2997ec19dd4afd8b5ffcaa0ea7ba6ba743dd6c3c2f56844d46a890e9f", func := "loop.example/g00924/laws.FnExactIsSafePlan", spec := "fnExactIsSafePlan", unfollowed := true, recurses := true, apart := false, narrowed := true }
def FnExactIsSafePlanUptoSaid : Prop := fnExactIsSafePlanUptoRow.holds Try.pinned (OpenSpec.upto fnExactIsSafePlanSpec)

/-- 'laws.FnExactPlanCost', WHERE WHAT IT READS IS OF BULK AT MOST 1048576: true; the input reads as it did. -/
def fnExactPlanCostUptoRow : OpenClaim := { program := "ytdjoiodkmanacaa", sum := "1f32e4c2997ec19dd4afd8b5ffcaa0ea7ba6ba743dd6c3c2f56844d46a890e9f", func := "loop.example/g00924/laws.FnExactPlanCost", spec := "fnExactPlanCost", unfollowed := true, recurses := true, apart := false, narrowed := true }
def FnExactPlanCostUptoSaid : Prop := fnExactPlanCostUptoRow.holds Try.pinned (OpenSpec.upto fnExactPlanCostSpec)

/-- 'laws.FnExactCheapestPlan', WHERE WHAT IT READS IS OF BULK AT MOST 1048576: true; the input reads as it did. -/
def fnExactCheapestPlanUptoRow : OpenClaim := { program := "ytdjoiodkmanacaa", sum := "1f32e4c2997ec19dd4afd8b5ffcaa0ea7ba6ba743dd6c3c2f56844d46a890e9f", func := "loop.example/g00924/laws.FnExactCheapestPlan", spec := "fnExactCheapestPlan", unfollowed := true, recurses := true, apart := false, narrowed := true }
def FnExactCheapestPlanUptoSaid : Prop := fnExactCheapestPlanUptoRow.holds Try.pinned (OpenSpec.upto fnExactCheapestPlanSpec)

/-- 'laws.FnExactCountStarts', WHERE WHAT IT READS IS OF BULK AT MOST 1048576: true; the input reads as it did. -/
def fnExactCountStartsUptoRow : OpenClaim := { program := "ytdjoiodkmanacaa", sum := "1f32e4c2997ec19dd4afd8b5ffcaa0ea7ba6ba743dd6c3c2f56844d46a890e9f", func := "loop.example/g00924/laws.FnExactCountStarts", spec := "fnExactCountStarts", apart := false, narrowed := true }
def FnExactCountStartsUptoSaid : Prop := fnExactCountStartsUptoRow.holds Try.pinned (OpenSpec.upto fnExactCountStartsSpec)

/-- 'laws.FnExactFirstUnsafe', WHERE WHAT IT READS IS OF BULK AT MOST 1048576: true; the input reads as it did. -/
def fnExactFirstUnsafeUptoRow : OpenClaim := { program := "ytdjoiodkmanacaa", sum := "1f32e4c2997ec19dd4afd8b5ffcaa0ea7ba6ba743dd6c3c2f56844d46a890e9f", func := "loop.example/g00924/laws.FnExactFirstUnsafe", spec := "fnExactFirstUnsafe", unfollowed := true, recurses := true, apart := false, narrowed := true }
def FnExactFirstUnsafeUptoSaid : Prop := fnExactFirstUnsafeUptoRow.holds Try.pinned (OpenSpec.upto fnExactFirstUnsafeSpec)

/-- 'laws.FnExactPumpedWater', WHERE WHAT IT READS IS OF BULK AT MOST 1048576: true; the input reads as it did. -/
def fnExactPumpedWaterUptoRow : OpenClaim := { program := "ytdjoiodkmanacaa", sum := "1f32e4c2997ec19dd4afd8b5ffcaa0ea7ba6ba743dd6c3c2f56844d46a890e9f", func := "loop.example/g00924/laws.FnExactPumpedWater", spec := "fnExactPumpedWater", unfollowed := true, recurses := true, apart := false, narrowed := true }
def FnExactPumpedWaterUptoSaid : Prop := fnExactPumpedWaterUptoRow.holds Try.pinned (OpenSpec.upto fnExactPumpedWaterSpec)

/-- 'laws.FnExactWithoutPump', WHERE WHAT IT READS IS OF BULK AT MOST 1048576: true; the input reads as it did. -/
def fnExactWithoutPumpUptoRow : OpenClaim := { program := "ytdjoiodkmanacaa", sum := "1f32e4c2997ec19dd4afd8b5ffcaa0ea7ba6ba743dd6c3c2f56844d46a890e9f", func := "loop.example/g00924/laws.FnExactWithoutPump", spec := "fnExactWithoutPump", apart := false, narrowed := true }
def FnExactWithoutPumpUptoSaid : Prop := fnExactWithoutPumpUptoRow.holds Try.pinned (OpenSpec.upto fnExactWithoutPumpSpec)

end Rows
end Go.Proofs.Ytdjoiodkmanacaa
