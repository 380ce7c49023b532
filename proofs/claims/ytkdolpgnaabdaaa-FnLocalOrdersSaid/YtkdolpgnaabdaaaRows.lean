/-
  No cell of these rows narrows 'for every input' (looked for: loops, veiled, ifaces, maps, wideKeys, modest, calm, conditions, laid).
  DERIVED. THE GIVEN ROWS OF THIS SEAT. 9 by the template 'for every input the law returns true; each argument reads behind the call as it read before'; 0 by the template 'total and deterministic' (their statements: YtkdolpgnaabdaaaTotals.lean).
  GIVEN WITH THE SEED: the statements are not yours to turn. If you find one false, say at which input.
  Laid BY PROGRAM, IN A SANDBOX (cutbox-rows.mjs): the forced cells as the released guide's own fill.sh prints them over the translation 552eaac85b84ff08… (all of the seat's roots in one cut). By AI agents, Wed Nov 11 2026. No macro, syntax, notation, axiom, sorry.
-/
import Derived.Test.YtkdolpgnaabdaaaChecked
import GoSem.Claim
import GoSem.ClaimJoined
import GoSem.ClaimMapViews
import Derived.JoinedTies
import Derived.KernelRfl
namespace Go.Proofs.Ytkdolpgnaabdaaa
/- THE CELL 'sum', in the pinned program and in every row, IS THE sha256 OF THE DUMP (.gsa) THAT YtkdolpgnaabdaaaProg.lean LOADS. Nothing in Lean hashes anything: it is a label: what it is worth is what the hold of that sum in a sandbox is worth. -/
noncomputable def Try.pinned : Pinned := { name := "ytkdolpgnaabdaaa", sum := "552eaac85b84ff080dfdb83ae5b1b553df97b41af5c0965db2a9cfb4c02ae962", checked := Try.checked }
namespace Rows
def none {H : Type} : Left H := { results := [], args := [] }

/-- 'laws.FnBounds': WHATEVER THE INPUT: true; the input reads as it did. -/
def fnBoundsSpec : ChangeSpec := { name := "fnBounds", fn := fun _ => fun
  | [d] => { results := [.lit (.bool true)], args := [d] }
  | _ => none }
def fnBoundsRow : OpenClaim := { program := "ytkdolpgnaabdaaa", sum := "552eaac85b84ff080dfdb83ae5b1b553df97b41af5c0965db2a9cfb4c02ae962", func := "loop.example/g00924/laws.FnBounds", spec := "fnBounds", unfollowed := true, recurses := true, apart := false }
def FnBoundsSaid : Prop := fnBoundsRow.holds Try.pinned (OpenSpec.ofChange fnBoundsSpec)

/-- ITS FALSE NEIGHBOUR: 'it returns false'. Refute it at one input. -/
def fnBoundsWrong : ChangeSpec := { name := "fnBounds", fn := fun _ => fun
  | [d] => { results := [.lit (.bool false)], args := [d] }
  | _ => none }
def FnBoundsWrongFalsely : Prop := fnBoundsRow.holds Try.pinned (OpenSpec.ofChange fnBoundsWrong)

/-- 'laws.FnLocalOrders': WHATEVER THE INPUT: true; the input reads as it did. -/
def fnLocalOrdersSpec : ChangeSpec := { name := "fnLocalOrders", fn := fun _ => fun
  | [d] => { results := [.lit (.bool true)], args := [d] }
  | _ => none }
def fnLocalOrdersRow : OpenClaim := { program := "ytkdolpgnaabdaaa", sum := "552eaac85b84ff080dfdb83ae5b1b553df97b41af5c0965db2a9cfb4c02ae962", func := "loop.example/g00924/laws.FnLocalOrders", spec := "fnLocalOrders", unfollowed := true, recurses := true, apart := false }
def FnLocalOrdersSaid : Prop := fnLocalOrdersRow.holds Try.pinned (OpenSpec.ofChange fnLocalOrdersSpec)

/-- ITS FALSE NEIGHBOUR: 'it returns false'. Refute it at one input. -/
def fnLocalOrdersWrong : ChangeSpec := { name := "fnLocalOrders", fn := fun _ => fun
  | [d] => { results := [.lit (.bool false)], args := [d] }
  | _ => none }
def FnLocalOrdersWrongFalsely : Prop := fnLocalOrdersRow.holds Try.pinned (OpenSpec.ofChange fnLocalOrdersWrong)

/-- 'laws.FnExactAloneBound': WHATEVER THE INPUT: true; the input reads as it did. -/
def fnExactAloneBoundSpec : ChangeSpec := { name := "fnExactAloneBound", fn := fun _ => fun
  | [d1, d2, d3] => { results := [.lit (.bool true)], args := [d1, d2, d3] }
  | _ => none }
def fnExactAloneBoundRow : OpenClaim := { program := "ytkdolpgnaabdaaa", sum := "552eaac85b84ff080dfdb83ae5b1b553df97b41af5c0965db2a9cfb4c02ae962", func := "loop.example/g00924/laws.FnExactAloneBound", spec := "fnExactAloneBound", unfollowed := true, recurses := true, apart := false }
def FnExactAloneBoundSaid : Prop := fnExactAloneBoundRow.holds Try.pinned (OpenSpec.ofChange fnExactAloneBoundSpec)

/-- ITS FALSE NEIGHBOUR: 'it returns false'. Refute it at one input. -/
def fnExactAloneBoundWrong : ChangeSpec := { name := "fnExactAloneBound", fn := fun _ => fun
  | [d1, d2, d3] => { results := [.lit (.bool false)], args := [d1, d2, d3] }
  | _ => none }
def FnExactAloneBoundWrongFalsely : Prop := fnExactAloneBoundRow.holds Try.pinned (OpenSpec.ofChange fnExactAloneBoundWrong)

/-- 'laws.FnExactQueueBound': WHATEVER THE INPUT: true; the input reads as it did. -/
def fnExactQueueBoundSpec : ChangeSpec := { name := "fnExactQueueBound", fn := fun _ => fun
  | [d1, d2] => { results := [.lit (.bool true)], args := [d1, d2] }
  | _ => none }
def fnExactQueueBoundRow : OpenClaim := { program := "ytkdolpgnaabdaaa", sum := "552eaac85b84ff080dfdb83ae5b1b553df97b41af5c0965db2a9cfb4c02ae962", func := "loop.example/g00924/laws.FnExactQueueBound", spec := "fnExactQueueBound", unfollowed := true, recurses := true, apart := false }
def FnExactQueueBoundSaid : Prop := fnExactQueueBoundRow.holds Try.pinned (OpenSpec.ofChange fnExactQueueBoundSpec)

/-- ITS FALSE NEIGHBOUR: 'it returns false'. Refute it at one input. -/
def fnExactQueueBoundWrong : ChangeSpec := { name := "fnExactQueueBound", fn := fun _ => fun
  | [d1, d2] => { results := [.lit (.bool false)], args := [d1, d2] }
  | _ => none }
def FnExactQueueBoundWrongFalsely : Prop := fnExactQueueBoundRow.holds Try.pinned (OpenSpec.ofChange fnExactQueueBoundWrong)

/-- 'laws.FnExactLowerBound': WHATEVER THE INPUT: true; the input reads as it did. -/
def fnExactLowerBoundSpec : ChangeSpec := { name := "fnExactLowerBound", fn := fun _ => fun
  | [d1, d2, d3] => { results := [.lit (.bool true)], args := [d1, d2, d3] }
  | _ => none }
def fnExactLowerBoundRow : OpenClaim := { program := "ytkdolpgnaabdaaa", sum := "552eaac85b84ff080dfdb83ae5b1b553df97b41af5c0965db2a9cfb4c02ae962", func := "loop.example/g00924/laws.FnExactLowerBound", spec := "fnExactLowerBound", unfollowed := true, recurses := true, apart := false }
def FnExactLowerBoundSaid : Prop := fnExactLowerBoundRow.holds Try.pinned (OpenSpec.ofChange fnExactLowerBoundSpec)

/-- ITS FALSE NEIGHBOUR: 'it returns false'. Refute it at one input. -/
def fnExactLowerBoundWrong : ChangeSpec := { name := "fnExactLowerBound", fn := fun _ => fun
  | [d1, d2, d3] => { results := [.lit (.bool false)], args := [d1, d2, d3] }
  | _ => none }
def FnExactLowerBoundWrongFalsely : Prop := fnExactLowerBoundRow.holds Try.pinned (OpenSpec.ofChange fnExactLowerBoundWrong)

/-- 'laws.FnExactGapOf': WHATEVER THE INPUT: true; the input reads as it did. -/
def fnExactGapOfSpec : ChangeSpec := { name := "fnExactGapOf", fn := fun _ => fun
  | [d1, d2, d3, d4] => { results := [.lit (.bool true)], args := [d1, d2, d3, d4] }
  | _ => none }
def fnExactGapOfRow : OpenClaim := { program := "ytkdolpgnaabdaaa", sum := "552eaac85b84ff080dfdb83ae5b1b553df97b41af5c0965db2a9cfb4c02ae962", func := "loop.example/g00924/laws.FnExactGapOf", spec := "fnExactGapOf", unfollowed := true, recurses := true, apart := false }
def FnExactGapOfSaid : Prop := fnExactGapOfRow.holds Try.pinned (OpenSpec.ofChange fnExactGapOfSpec)

/-- ITS FALSE NEIGHBOUR: 'it returns false'. Refute it at one input. -/
def fnExactGapOfWrong : ChangeSpec := { name := "fnExactGapOf", fn := fun _ => fun
  | [d1, d2, d3, d4] => { results := [.lit (.bool false)], args := [d1, d2, d3, d4] }
  | _ => none }
def FnExactGapOfWrongFalsely : Prop := fnExactGapOfRow.holds Try.pinned (OpenSpec.ofChange fnExactGapOfWrong)

/-- 'laws.FnExactIsProven': WHATEVER THE INPUT: true; the input reads as it did. -/
def fnExactIsProvenSpec : ChangeSpec := { name := "fnExactIsProven", fn := fun _ => fun
  | [d1, d2, d3, d4] => { results := [.lit (.bool true)], args := [d1, d2, d3, d4] }
  | _ => none }
def fnExactIsProvenRow : OpenClaim := { program := "ytkdolpgnaabdaaa", sum := "552eaac85b84ff080dfdb83ae5b1b553df97b41af5c0965db2a9cfb4c02ae962", func := "loop.example/g00924/laws.FnExactIsProven", spec := "fnExactIsProven", unfollowed := true, recurses := true, apart := false }
def FnExactIsProvenSaid : Prop := fnExactIsProvenRow.holds Try.pinned (OpenSpec.ofChange fnExactIsProvenSpec)

/-- ITS FALSE NEIGHBOUR: 'it returns false'. Refute it at one input. -/
def fnExactIsProvenWrong : ChangeSpec := { name := "fnExactIsProven", fn := fun _ => fun
  | [d1, d2, d3, d4] => { results := [.lit (.bool false)], args := [d1, d2, d3, d4] }
  | _ => none }
def FnExactIsProvenWrongFalsely : Prop := fnExactIsProvenRow.holds Try.pinned (OpenSpec.ofChange fnExactIsProvenWrong)

/-- 'laws.FnExactSwapGain': WHATEVER THE INPUT: true; the input reads as it did. -/
def fnExactSwapGainSpec : ChangeSpec := { name := "fnExactSwapGain", fn := fun _ => fun
  | [d1, d2, d3, d4, d5] => { results := [.lit (.bool true)], args := [d1, d2, d3, d4, d5] }
  | _ => none }
def fnExactSwapGainRow : OpenClaim := { program := "ytkdolpgnaabdaaa", sum := "552eaac85b84ff080dfdb83ae5b1b553df97b41af5c0965db2a9cfb4c02ae962", func := "loop.example/g00924/laws.FnExactSwapGain", spec := "fnExactSwapGain", unfollowed := true, recurses := true, apart := false }
def FnExactSwapGainSaid : Prop := fnExactSwapGainRow.holds Try.pinned (OpenSpec.ofChange fnExactSwapGainSpec)

/-- ITS FALSE NEIGHBOUR: 'it returns false'. Refute it at one input. -/
def fnExactSwapGainWrong : ChangeSpec := { name := "fnExactSwapGain", fn := fun _ => fun
  | [d1, d2, d3, d4, d5] => { results := [.lit (.bool false)], args := [d1, d2, d3, d4, d5] }
  | _ => none }
def FnExactSwapGainWrongFalsely : Prop := fnExactSwapGainRow.holds Try.pinned (OpenSpec.ofChange fnExactSwapGainWrong)

/-- 'laws.FnExactLocalOrder': WHATEVER THE INPUT: true; the input reads as it did. -/
def fnExactLocalOrderSpec : ChangeSpec := { name := "fnExactLocalOrder", fn := fun _ => fun
  | [d1, d2, d3] => { results := [.lit (.bool true)], args := [d1, d2, d3] }
  | _ => none }
def fnExactLocalOrderRow : OpenClaim := { program := "ytkdolpgnaabdaaa", sum := "552eaac85b84ff080dfdb83ae5b1b553df97b41af5c0965db2a9cfb4c02ae962", func := "loop.example/g00924/laws.FnExactLocalOrder", spec := "fnExactLocalOrder", unfollowed := true, recurses := true, apart := false }
def FnExactLocalOrderSaid : Prop := fnExactLocalOrderRow.holds Try.pinned (OpenSpec.ofChange fnExactLocalOrderSpec)

/-- ITS FALSE NEIGHBOUR: 'it returns false'. Refute it at one input. -/
def fnExactLocalOrderWrong : ChangeSpec := { name := "fnExactLocalOrder", fn := fun _ => fun
  | [d1, d2, d3] => { results := [.lit (.bool false)], args := [d1, d2, d3] }
  | _ => none }
def FnExactLocalOrderWrongFalsely : Prop := fnExactLocalOrderRow.holds Try.pinned (OpenSpec.ofChange fnExactLocalOrderWrong)

/- THE SECOND FORM. 'bulk': how many values and letters a reading holds, each counted each time it is reached (what is shared counts as often as it is met; a slice's spare places count too). A statement '..UptoSaid' is the law's where the arguments, and the package variables that the reading takes, are together of bulk at most 1048576: NARROWER than '..Said'. Prove '..Said' where nothing that the law and all that it calls make is longer than what came in: it says more and counts as full. Else prove '..UptoSaid'. A law counts once. -/
mutual
def uptoBulk {H : Type} : DataW H → Nat
  | .lit (.string bytes) => bytes.length + 1
  | .lit _ => 1
  | .nil => 1
  | .ptr d => uptoBulk d + 1
  | .slice elems spare => uptoBulkAll elems + uptoBulkAll spare + 1
  | .agg parts => uptoBulkAll parts + 1
  | .iface _ d => uptoBulk d + 1
  | .map entries => uptoBulkEntries entries + 1
  | .held _ => 1
def uptoBulkAll {H : Type} : List (DataW H) → Nat
  | [] => 0
  | d :: r => uptoBulk d + uptoBulkAll r
def uptoBulkEntries {H : Type} : List (Lit × DataW H) → Nat
  | [] => 0
  | x :: r => uptoBulkEntry x + uptoBulkEntries r
def uptoBulkEntry {H : Type} : Lit × DataW H → Nat
  | (.string bytes, d) => bytes.length + uptoBulk d + 1
  | (_, d) => uptoBulk d + 1
 end
def uptoSmall : (H : Type) → List (DataW H) → Bool := fun _ ds => decide (uptoBulkAll ds ≤ 1048576)
def OpenSpec.upto (s : _root_.Go.ChangeSpec) : _root_.Go.OpenSpec := { _root_.Go.OpenSpec.ofChange s with cond := some uptoSmall }

/-- 'laws.FnBounds', WHERE WHAT IT READS IS OF BULK AT MOST 1048576: true; the input reads as it did. -/
def fnBoundsUptoRow : OpenClaim := { program := "ytkdolpgnaabdaaa", sum := "552eaac85b84ff080dfdb83ae5b1b553df97b41af5c0965db2a9cfb4c02ae962", func := "loop.example/g00924/laws.FnBounds", spec := "fnBounds", unfollowed := true, recurses := true, apart := false, narrowed := true }
def FnBoundsUptoSaid : Prop := fnBoundsUptoRow.holds Try.pinned (OpenSpec.upto fnBoundsSpec)

/-- 'laws.FnLocalOrders', WHERE WHAT IT READS IS OF BULK AT MOST 1048576: true; the input reads as it did. -/
def fnLocalOrdersUptoRow : OpenClaim := { program := "ytkdolpgnaabdaaa", sum := "552eaac85b84ff080dfdb83ae5b1b553df97b41af5c0965db2a9cfb4c02ae962", func := "loop.example/g00924/laws.FnLocalOrders", spec := "fnLocalOrders", unfollowed := true, recurses := true, apart := false, narrowed := true }
def FnLocalOrdersUptoSaid : Prop := fnLocalOrdersUptoRow.holds Try.pinned (OpenSpec.upto fnLocalOrdersSpec)

/-- 'laws.FnExactAloneBound', WHERE WHAT IT READS IS OF BULK AT MOST 1048576: true; the input reads as it did. -/
def fnExactAloneBoundUptoRow : OpenClaim := { program := "ytkdolpgnaabdaaa", sum := "552eaac85b84ff080dfdb83ae5b1b553df97b41af5c0965db2a9cfb4c02ae962", func := "loop.example/g00924/laws.FnExactAloneBound", spec := "fnExactAloneBound", unfollowed := true, recurses := true, apart := false, narrowed := true }
def FnExactAloneBoundUptoSaid : Prop := fnExactAloneBoundUptoRow.holds Try.pinned (OpenSpec.upto fnExactAloneBoundSpec)

/-- 'laws.FnExactQueueBound', WHERE WHAT IT READS IS OF BULK AT MOST 1048576: true; the input reads as it did. -/
def fnExactQueueBoundUptoRow : OpenClaim := { program := "ytkdolpgnaabdaaa", sum := "552eaac85b84ff080dfdb83ae5b1b553df97b41af5c0965db2a9cfb4c02ae962", func := "loop.example/g00924/laws.FnExactQueueBound", spec := "fnExactQueueBound", unfollowed := true, recurses := true, apart := false, narrowed := true }
def FnExactQueueBoundUptoSaid : Prop := fnExactQueueBoundUptoRow.holds Try.pinned (OpenSpec.upto fnExactQueueBoundSpec)

/-- 'laws.FnExactLowerBound', WHERE WHAT IT READS IS OF BULK AT MOST 1048576: true; the input reads as it did. -/
def fnExactLowerBoundUptoRow : OpenClaim := { program := "ytkdolpgnaabdaaa", sum := "552eaac85b84ff080dfdb83ae5b1b553df97b41af5c0965db2a9cfb4c02ae962", func := "loop.example/g00924/laws.FnExactLowerBound", spec := "fnExactLowerBound", unfollowed := true, recurses := true, apart := false, narrowed := true }
def FnExactLowerBoundUptoSaid : Prop := fnExactLowerBoundUptoRow.holds Try.pinned (OpenSpec.upto fnExactLowerBoundSpec)

/-- 'laws.FnExactGapOf', WHERE WHAT IT READS IS OF BULK AT MOST 1048576: true; the input reads as it did. -/
def fnExactGapOfUptoRow : OpenClaim := { program := "ytkdolpgnaabdaaa", sum := "552eaac85b84ff080dfdb83ae5b1b553df97b41af5c0965db2a9cfb4c02ae962", func := "loop.example/g00924/laws.FnExactGapOf", spec := "fnExactGapOf", unfollowed := true, recurses := true, apart := false, narrowed := true }
def FnExactGapOfUptoSaid : Prop := fnExactGapOfUptoRow.holds Try.pinned (OpenSpec.upto fnExactGapOfSpec)

/-- 'laws.FnExactIsProven', WHERE WHAT IT READS IS OF BULK AT MOST 1048576: true; the input reads as it did. -/
def fnExactIsProvenUptoRow : OpenClaim := { program := "ytkdolpgnaabdaaa", sum := "552eaac85b84ff080dfdb83ae5b1b553df97b41af5c0965db2a9cfb4c02ae962", func := "loop.example/g00924/laws.FnExactIsProven", spec := "fnExactIsProven", unfollowed := true, recurses := true, apart := false, narrowed := true }
def FnExactIsProvenUptoSaid : Prop := fnExactIsProvenUptoRow.holds Try.pinned (OpenSpec.upto fnExactIsProvenSpec)

/-- 'laws.FnExactSwapGain', WHERE WHAT IT READS IS OF BULK AT MOST 1048576: true; the input reads as it did. -/
def fnExactSwapGainUptoRow : OpenClaim := { program := "ytkdolpgnaabdaaa", sum := "552eaac85b84ff080dfdb83ae5b1b553df97b41af5c0965db2a9cfb4c02ae962", func := "loop.example/g00924/laws.FnExactSwapGain", spec := "fnExactSwapGain", unfollowed := true, recurses := true, apart := false, narrowed := true }
def FnExactSwapGainUptoSaid : Prop := fnExactSwapGainUptoRow.holds Try.pinned (OpenSpec.upto fnExactSwapGainSpec)

/-- 'laws.FnExactLocalOrder', WHERE WHAT IT READS IS OF BULK AT MOST 1048576: true; the input reads as it did. -/
def fnExactLocalOrderUptoRow : OpenClaim := { program := "ytkdolpgnaabdaaa", sum := "552eaac85b84ff080dfdb83ae5b1b553df97b41af5c0965db2a9cfb4c02ae962", func := "loop.example/g00924/laws.FnExactLocalOrder", spec := "fnExactLocalOrder", unfollowed := true, recurses := true, apart := false, narrowed := true }
def FnExactLocalOrderUptoSaid : Prop := fnExactLocalOrderUptoRow.holds Try.pinned (OpenSpec.upto fnExactLocalOrderSpec)

end Rows
end Go.Proofs.Ytkdolpgnaabdaaa
