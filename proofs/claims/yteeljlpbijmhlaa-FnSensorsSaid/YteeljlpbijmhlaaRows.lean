/-
  No cell of these rows narrows 'for every input' (looked for: loops, veiled, ifaces, maps, wideKeys, modest, calm, conditions, laid).
  DERIVED. THE GIVEN ROWS OF THIS SEAT. 13 by the template 'for every input the law returns true; each argument reads behind the call as it read before'; 0 by the template 'total and deterministic' (their statements: YteeljlpbijmhlaaTotals.lean).
  GIVEN WITH THE SEED: the statements are not yours to turn. If you find one false, say at which input.
  Laid BY PROGRAM, IN A SANDBOX (cutbox-rows.mjs): the forced cells as the released guide's own fill.sh prints them over the translation 5890ff90df2fc11b… (all of the seat's roots in one cut). By AI agents, Wed Nov 11 2026. No macro, syntax, notation, axiom, sorry.
-/
import Derived.Test.YteeljlpbijmhlaaChecked
import GoSem.Claim
import GoSem.ClaimJoined
import GoSem.ClaimMapViews
import Derived.JoinedTies
import Derived.KernelRfl
namespace Go.Proofs.Yteeljlpbijmhlaa
/- THE CELL 'sum', in the pinned program and in every row, IS THE sha256 OF THE DUMP (.gsa) THAT YteeljlpbijmhlaaProg.lean LOADS. Nothing in Lean hashes anything: it is a label: what it is worth is what the hold of that sum in a sandbox is worth. -/
noncomputable def Try.pinned : Pinned := { name := "yteeljlpbijmhlaa", sum := "5890ff90df2fc11b937d7491a7729890659a321a7a214c2858020876213e9e94", checked := Try.checked }
namespace Rows
def none {H : Type} : Left H := { results := [], args := [] }

/-- 'laws.FnExactMedianOf': WHATEVER THE INPUT: true; the input reads as it did. -/
def fnExactMedianOfSpec : ChangeSpec := { name := "fnExactMedianOf", fn := fun _ => fun
  | [d] => { results := [.lit (.bool true)], args := [d] }
  | _ => none }
def fnExactMedianOfRow : OpenClaim := { program := "yteeljlpbijmhlaa", sum := "5890ff90df2fc11b937d7491a7729890659a321a7a214c2858020876213e9e94", func := "loop.example/g00924/laws.FnExactMedianOf", spec := "fnExactMedianOf", unfollowed := true, recurses := true, apart := false }
def FnExactMedianOfSaid : Prop := fnExactMedianOfRow.holds Try.pinned (OpenSpec.ofChange fnExactMedianOfSpec)

/-- ITS FALSE NEIGHBOUR: 'it returns false'. Refute it at one input. -/
def fnExactMedianOfWrong : ChangeSpec := { name := "fnExactMedianOf", fn := fun _ => fun
  | [d] => { results := [.lit (.bool false)], args := [d] }
  | _ => none }
def FnExactMedianOfWrongFalsely : Prop := fnExactMedianOfRow.holds Try.pinned (OpenSpec.ofChange fnExactMedianOfWrong)

/-- 'laws.FnExactAgreeingSensors': WHATEVER THE INPUT: true; the input reads as it did. -/
def fnExactAgreeingSensorsSpec : ChangeSpec := { name := "fnExactAgreeingSensors", fn := fun _ => fun
  | [d1, d2] => { results := [.lit (.bool true)], args := [d1, d2] }
  | _ => none }
def fnExactAgreeingSensorsRow : OpenClaim := { program := "yteeljlpbijmhlaa", sum := "5890ff90df2fc11b937d7491a7729890659a321a7a214c2858020876213e9e94", func := "loop.example/g00924/laws.FnExactAgreeingSensors", spec := "fnExactAgreeingSensors", unfollowed := true, recurses := true, apart := false }
def FnExactAgreeingSensorsSaid : Prop := fnExactAgreeingSensorsRow.holds Try.pinned (OpenSpec.ofChange fnExactAgreeingSensorsSpec)

/-- ITS FALSE NEIGHBOUR: 'it returns false'. Refute it at one input. -/
def fnExactAgreeingSensorsWrong : ChangeSpec := { name := "fnExactAgreeingSensors", fn := fun _ => fun
  | [d1, d2] => { results := [.lit (.bool false)], args := [d1, d2] }
  | _ => none }
def FnExactAgreeingSensorsWrongFalsely : Prop := fnExactAgreeingSensorsRow.holds Try.pinned (OpenSpec.ofChange fnExactAgreeingSensorsWrong)

/-- 'laws.FnExactVotedLevel': WHATEVER THE INPUT: true; the input reads as it did. -/
def fnExactVotedLevelSpec : ChangeSpec := { name := "fnExactVotedLevel", fn := fun _ => fun
  | [d1, d2] => { results := [.lit (.bool true)], args := [d1, d2] }
  | _ => none }
def fnExactVotedLevelRow : OpenClaim := { program := "yteeljlpbijmhlaa", sum := "5890ff90df2fc11b937d7491a7729890659a321a7a214c2858020876213e9e94", func := "loop.example/g00924/laws.FnExactVotedLevel", spec := "fnExactVotedLevel", unfollowed := true, recurses := true, apart := false }
def FnExactVotedLevelSaid : Prop := fnExactVotedLevelRow.holds Try.pinned (OpenSpec.ofChange fnExactVotedLevelSpec)

/-- ITS FALSE NEIGHBOUR: 'it returns false'. Refute it at one input. -/
def fnExactVotedLevelWrong : ChangeSpec := { name := "fnExactVotedLevel", fn := fun _ => fun
  | [d1, d2] => { results := [.lit (.bool false)], args := [d1, d2] }
  | _ => none }
def FnExactVotedLevelWrongFalsely : Prop := fnExactVotedLevelRow.holds Try.pinned (OpenSpec.ofChange fnExactVotedLevelWrong)

/-- 'laws.FnExactSuspectSensor': WHATEVER THE INPUT: true; the input reads as it did. -/
def fnExactSuspectSensorSpec : ChangeSpec := { name := "fnExactSuspectSensor", fn := fun _ => fun
  | [d1, d2] => { results := [.lit (.bool true)], args := [d1, d2] }
  | _ => none }
def fnExactSuspectSensorRow : OpenClaim := { program := "yteeljlpbijmhlaa", sum := "5890ff90df2fc11b937d7491a7729890659a321a7a214c2858020876213e9e94", func := "loop.example/g00924/laws.FnExactSuspectSensor", spec := "fnExactSuspectSensor", unfollowed := true, recurses := true, apart := false }
def FnExactSuspectSensorSaid : Prop := fnExactSuspectSensorRow.holds Try.pinned (OpenSpec.ofChange fnExactSuspectSensorSpec)

/-- ITS FALSE NEIGHBOUR: 'it returns false'. Refute it at one input. -/
def fnExactSuspectSensorWrong : ChangeSpec := { name := "fnExactSuspectSensor", fn := fun _ => fun
  | [d1, d2] => { results := [.lit (.bool false)], args := [d1, d2] }
  | _ => none }
def FnExactSuspectSensorWrongFalsely : Prop := fnExactSuspectSensorRow.holds Try.pinned (OpenSpec.ofChange fnExactSuspectSensorWrong)

/-- 'laws.FnExactIsStuck': WHATEVER THE INPUT: true; the input reads as it did. -/
def fnExactIsStuckSpec : ChangeSpec := { name := "fnExactIsStuck", fn := fun _ => fun
  | [d1, d2] => { results := [.lit (.bool true)], args := [d1, d2] }
  | _ => none }
def fnExactIsStuckRow : OpenClaim := { program := "yteeljlpbijmhlaa", sum := "5890ff90df2fc11b937d7491a7729890659a321a7a214c2858020876213e9e94", func := "loop.example/g00924/laws.FnExactIsStuck", spec := "fnExactIsStuck", apart := false }
def FnExactIsStuckSaid : Prop := fnExactIsStuckRow.holds Try.pinned (OpenSpec.ofChange fnExactIsStuckSpec)

/-- ITS FALSE NEIGHBOUR: 'it returns false'. Refute it at one input. -/
def fnExactIsStuckWrong : ChangeSpec := { name := "fnExactIsStuck", fn := fun _ => fun
  | [d1, d2] => { results := [.lit (.bool false)], args := [d1, d2] }
  | _ => none }
def FnExactIsStuckWrongFalsely : Prop := fnExactIsStuckRow.holds Try.pinned (OpenSpec.ofChange fnExactIsStuckWrong)

/-- 'laws.FnExactJumpIn': WHATEVER THE INPUT: true; the input reads as it did. -/
def fnExactJumpInSpec : ChangeSpec := { name := "fnExactJumpIn", fn := fun _ => fun
  | [d1, d2] => { results := [.lit (.bool true)], args := [d1, d2] }
  | _ => none }
def fnExactJumpInRow : OpenClaim := { program := "yteeljlpbijmhlaa", sum := "5890ff90df2fc11b937d7491a7729890659a321a7a214c2858020876213e9e94", func := "loop.example/g00924/laws.FnExactJumpIn", spec := "fnExactJumpIn", apart := false }
def FnExactJumpInSaid : Prop := fnExactJumpInRow.holds Try.pinned (OpenSpec.ofChange fnExactJumpInSpec)

/-- ITS FALSE NEIGHBOUR: 'it returns false'. Refute it at one input. -/
def fnExactJumpInWrong : ChangeSpec := { name := "fnExactJumpIn", fn := fun _ => fun
  | [d1, d2] => { results := [.lit (.bool false)], args := [d1, d2] }
  | _ => none }
def FnExactJumpInWrongFalsely : Prop := fnExactJumpInRow.holds Try.pinned (OpenSpec.ofChange fnExactJumpInWrong)

/-- 'laws.FnExactLongestCalm': WHATEVER THE INPUT: true; the input reads as it did. -/
def fnExactLongestCalmSpec : ChangeSpec := { name := "fnExactLongestCalm", fn := fun _ => fun
  | [d1, d2] => { results := [.lit (.bool true)], args := [d1, d2] }
  | _ => none }
def fnExactLongestCalmRow : OpenClaim := { program := "yteeljlpbijmhlaa", sum := "5890ff90df2fc11b937d7491a7729890659a321a7a214c2858020876213e9e94", func := "loop.example/g00924/laws.FnExactLongestCalm", spec := "fnExactLongestCalm", apart := false }
def FnExactLongestCalmSaid : Prop := fnExactLongestCalmRow.holds Try.pinned (OpenSpec.ofChange fnExactLongestCalmSpec)

/-- ITS FALSE NEIGHBOUR: 'it returns false'. Refute it at one input. -/
def fnExactLongestCalmWrong : ChangeSpec := { name := "fnExactLongestCalm", fn := fun _ => fun
  | [d1, d2] => { results := [.lit (.bool false)], args := [d1, d2] }
  | _ => none }
def FnExactLongestCalmWrongFalsely : Prop := fnExactLongestCalmRow.holds Try.pinned (OpenSpec.ofChange fnExactLongestCalmWrong)

/-- 'laws.FnExactCommonBound': WHATEVER THE INPUT: true; the input reads as it did. -/
def fnExactCommonBoundSpec : ChangeSpec := { name := "fnExactCommonBound", fn := fun _ => fun
  | [d] => { results := [.lit (.bool true)], args := [d] }
  | _ => none }
def fnExactCommonBoundRow : OpenClaim := { program := "yteeljlpbijmhlaa", sum := "5890ff90df2fc11b937d7491a7729890659a321a7a214c2858020876213e9e94", func := "loop.example/g00924/laws.FnExactCommonBound", spec := "fnExactCommonBound", apart := false }
def FnExactCommonBoundSaid : Prop := fnExactCommonBoundRow.holds Try.pinned (OpenSpec.ofChange fnExactCommonBoundSpec)

/-- ITS FALSE NEIGHBOUR: 'it returns false'. Refute it at one input. -/
def fnExactCommonBoundWrong : ChangeSpec := { name := "fnExactCommonBound", fn := fun _ => fun
  | [d] => { results := [.lit (.bool false)], args := [d] }
  | _ => none }
def FnExactCommonBoundWrongFalsely : Prop := fnExactCommonBoundRow.holds Try.pinned (OpenSpec.ofChange fnExactCommonBoundWrong)

/-- 'laws.FnExactTrustedBound': WHATEVER THE INPUT: true; the input reads as it did. -/
def fnExactTrustedBoundSpec : ChangeSpec := { name := "fnExactTrustedBound", fn := fun _ => fun
  | [d1, d2] => { results := [.lit (.bool true)], args := [d1, d2] }
  | _ => none }
def fnExactTrustedBoundRow : OpenClaim := { program := "yteeljlpbijmhlaa", sum := "5890ff90df2fc11b937d7491a7729890659a321a7a214c2858020876213e9e94", func := "loop.example/g00924/laws.FnExactTrustedBound", spec := "fnExactTrustedBound", apart := false }
def FnExactTrustedBoundSaid : Prop := fnExactTrustedBoundRow.holds Try.pinned (OpenSpec.ofChange fnExactTrustedBoundSpec)

/-- ITS FALSE NEIGHBOUR: 'it returns false'. Refute it at one input. -/
def fnExactTrustedBoundWrong : ChangeSpec := { name := "fnExactTrustedBound", fn := fun _ => fun
  | [d1, d2] => { results := [.lit (.bool false)], args := [d1, d2] }
  | _ => none }
def FnExactTrustedBoundWrongFalsely : Prop := fnExactTrustedBoundRow.holds Try.pinned (OpenSpec.ofChange fnExactTrustedBoundWrong)

/-- 'laws.FnExactFewestFaults': WHATEVER THE INPUT: true; the input reads as it did. -/
def fnExactFewestFaultsSpec : ChangeSpec := { name := "fnExactFewestFaults", fn := fun _ => fun
  | [d] => { results := [.lit (.bool true)], args := [d] }
  | _ => none }
def fnExactFewestFaultsRow : OpenClaim := { program := "yteeljlpbijmhlaa", sum := "5890ff90df2fc11b937d7491a7729890659a321a7a214c2858020876213e9e94", func := "loop.example/g00924/laws.FnExactFewestFaults", spec := "fnExactFewestFaults", apart := false }
def FnExactFewestFaultsSaid : Prop := fnExactFewestFaultsRow.holds Try.pinned (OpenSpec.ofChange fnExactFewestFaultsSpec)

/-- ITS FALSE NEIGHBOUR: 'it returns false'. Refute it at one input. -/
def fnExactFewestFaultsWrong : ChangeSpec := { name := "fnExactFewestFaults", fn := fun _ => fun
  | [d] => { results := [.lit (.bool false)], args := [d] }
  | _ => none }
def FnExactFewestFaultsWrongFalsely : Prop := fnExactFewestFaultsRow.holds Try.pinned (OpenSpec.ofChange fnExactFewestFaultsWrong)

/-- 'laws.FnSensors': WHATEVER THE INPUT: true; the input reads as it did. -/
def fnSensorsSpec : ChangeSpec := { name := "fnSensors", fn := fun _ => fun
  | [d] => { results := [.lit (.bool true)], args := [d] }
  | _ => none }
def fnSensorsRow : OpenClaim := { program := "yteeljlpbijmhlaa", sum := "5890ff90df2fc11b937d7491a7729890659a321a7a214c2858020876213e9e94", func := "loop.example/g00924/laws.FnSensors", spec := "fnSensors", unfollowed := true, recurses := true, apart := false }
def FnSensorsSaid : Prop := fnSensorsRow.holds Try.pinned (OpenSpec.ofChange fnSensorsSpec)

/-- ITS FALSE NEIGHBOUR: 'it returns false'. Refute it at one input. -/
def fnSensorsWrong : ChangeSpec := { name := "fnSensors", fn := fun _ => fun
  | [d] => { results := [.lit (.bool false)], args := [d] }
  | _ => none }
def FnSensorsWrongFalsely : Prop := fnSensorsRow.holds Try.pinned (OpenSpec.ofChange fnSensorsWrong)

/-- 'laws.FnSeries': WHATEVER THE INPUT: true; the input reads as it did. -/
def fnSeriesSpec : ChangeSpec := { name := "fnSeries", fn := fun _ => fun
  | [d] => { results := [.lit (.bool true)], args := [d] }
  | _ => none }
def fnSeriesRow : OpenClaim := { program := "yteeljlpbijmhlaa", sum := "5890ff90df2fc11b937d7491a7729890659a321a7a214c2858020876213e9e94", func := "loop.example/g00924/laws.FnSeries", spec := "fnSeries", apart := false }
def FnSeriesSaid : Prop := fnSeriesRow.holds Try.pinned (OpenSpec.ofChange fnSeriesSpec)

/-- ITS FALSE NEIGHBOUR: 'it returns false'. Refute it at one input. -/
def fnSeriesWrong : ChangeSpec := { name := "fnSeries", fn := fun _ => fun
  | [d] => { results := [.lit (.bool false)], args := [d] }
  | _ => none }
def FnSeriesWrongFalsely : Prop := fnSeriesRow.holds Try.pinned (OpenSpec.ofChange fnSeriesWrong)

/-- 'laws.FnTrust': WHATEVER THE INPUT: true; the input reads as it did. -/
def fnTrustSpec : ChangeSpec := { name := "fnTrust", fn := fun _ => fun
  | [d] => { results := [.lit (.bool true)], args := [d] }
  | _ => none }
def fnTrustRow : OpenClaim := { program := "yteeljlpbijmhlaa", sum := "5890ff90df2fc11b937d7491a7729890659a321a7a214c2858020876213e9e94", func := "loop.example/g00924/laws.FnTrust", spec := "fnTrust", apart := false }
def FnTrustSaid : Prop := fnTrustRow.holds Try.pinned (OpenSpec.ofChange fnTrustSpec)

/-- ITS FALSE NEIGHBOUR: 'it returns false'. Refute it at one input. -/
def fnTrustWrong : ChangeSpec := { name := "fnTrust", fn := fun _ => fun
  | [d] => { results := [.lit (.bool false)], args := [d] }
  | _ => none }
def FnTrustWrongFalsely : Prop := fnTrustRow.holds Try.pinned (OpenSpec.ofChange fnTrustWrong)

/- THE SECOND FORM. 'bulk': how many values and letters a reading holds, each counted each time it is reached (what is shared counts as often as it is met; a slice's spare places count too). A statement '..UptoSaid' is the law's where the arguments, and the package variables that the reading takes, are together of bulk at most 1048576: NARROWER than '..Said'. Prove '..Said' where nothing that the law and all that it calls make is longer than what came in: it says more and counts as full. Else prove '..UptoSaid'. A law counts once. -/
mutual
def uptoBulk {H : Type} : DataW H → Nat
  | .lit (.string bytes) => bytes.length + 1
  | .lit _ => 1
  | .nil => 1
  | .ptr d => uptoBulk d + 1
  | .slice elems spare => uptoBulkAll elems + uptoBulkAll spare + 1
  | .agg parts => uptoBulkAll parts + 1
  | .iface _ d => uptoBulk d + 1
  | .map entries => uptoBulkEntries entries + 1
  | .held _ => 1
def uptoBulkAll {H : Type} : List (DataW H) → Nat
  | [] => 0
  | d :: r => uptoBulk d + uptoBulkAll r
def uptoBulkEntries {H : Type} : List (Lit × DataW H) → Nat
  | [] => 0
  | x :: r => uptoBulkEntry x + uptoBulkEntries r
def uptoBulkEntry {H : Type} : Lit × DataW H → Nat
  | (.string bytes, d) => bytes.length + uptoBulk d + 1
  | (_, d) => uptoBulk d + 1
 end
def uptoSmall : (H : Type) → List (DataW H) → Bool := fun _ ds => decide (uptoBulkAll ds ≤ 1048576)
def OpenSpec.upto (s : _root_.Go.ChangeSpec) : _root_.Go.OpenSpec := { _root_.Go.OpenSpec.ofChange s with cond := some uptoSmall }

/-- 'laws.FnExactMedianOf', WHERE WHAT IT READS IS OF BULK AT MOST 1048576: true; the input reads as it did. -/
def fnExactMedianOfUptoRow : OpenClaim := { program := "yteeljlpbijmhlaa", sum := "5890ff90df2fc11b937d7491a7729890659a321a7a214c2858020876213e9e94", func := "loop.example/g00924/laws.FnExactMedianOf", spec := "fnExactMedianOf", unfollowed := true, recurses := true, apart := false, narrowed := true }
def FnExactMedianOfUptoSaid : Prop := fnExactMedianOfUptoRow.holds Try.pinned (OpenSpec.upto fnExactMedianOfSpec)

/-- 'laws.FnExactAgreeingSensors', WHERE WHAT IT READS IS OF BULK AT MOST 1048576: true; the input reads as it did. -/
def fnExactAgreeingSensorsUptoRow : OpenClaim := { program := "yteeljlpbijmhlaa", sum := "5890ff90df2fc11b937d7491a7729890659a321a7a214c2858020876213e9e94", func := "loop.example/g00924/laws.FnExactAgreeingSensors", spec := "fnExactAgreeingSensors", unfollowed := true, recurses := true, apart := false, narrowed := true }
def FnExactAgreeingSensorsUptoSaid : Prop := fnExactAgreeingSensorsUptoRow.holds Try.pinned (OpenSpec.upto fnExactAgreeingSensorsSpec)

/-- 'laws.FnExactVotedLevel', WHERE WHAT IT READS IS OF BULK AT MOST 1048576: true; the input reads as it did. -/
def fnExactVotedLevelUptoRow : OpenClaim := { program := "yteeljlpbijmhlaa", sum := "5890ff90df2fc11b937d7491a7729890659a321a7a214c2858020876213e9e94", func := "loop.example/g00924/laws.FnExactVotedLevel", spec := "fnExactVotedLevel", unfollowed := true, recurses := true, apart := false, narrowed := true }
def FnExactVotedLevelUptoSaid : Prop := fnExactVotedLevelUptoRow.holds Try.pinned (OpenSpec.upto fnExactVotedLevelSpec)

/-- 'laws.FnExactSuspectSensor', WHERE WHAT IT READS IS OF BULK AT MOST 1048576: true; the input reads as it did. -/
def fnExactSuspectSensorUptoRow : OpenClaim := { program := "yteeljlpbijmhlaa", sum := "5890ff90df2fc11b937d7491a7729890659a321a7a214c2858020876213e9e94", func := "loop.example/g00924/laws.FnExactSuspectSensor", spec := "fnExactSuspectSensor", unfollowed := true, recurses := true, apart := false, narrowed := true }
def FnExactSuspectSensorUptoSaid : Prop := fnExactSuspectSensorUptoRow.holds Try.pinned (OpenSpec.upto fnExactSuspectSensorSpec)

/-- 'laws.FnExactIsStuck', WHERE WHAT IT READS IS OF BULK AT MOST 1048576: true; the input reads as it did. -/
def fnExactIsStuckUptoRow : OpenClaim := { program := "yteeljlpbijmhlaa", sum := "5890ff90df2fc11b937d7491a7729890659a321a7a214c2858020876213e9e94", func := "loop.example/g00924/laws.FnExactIsStuck", spec := "fnExactIsStuck", apart := false, narrowed := true }
def FnExactIsStuckUptoSaid : Prop := fnExactIsStuckUptoRow.holds Try.pinned (OpenSpec.upto fnExactIsStuckSpec)

/-- 'laws.FnExactJumpIn', WHERE WHAT IT READS IS OF BULK AT MOST 1048576: true; the input reads as it did. -/
def fnExactJumpInUptoRow : OpenClaim := { program := "yteeljlpbijmhlaa", sum := "5890ff90df2fc11b937d7491a7729890659a321a7a214c2858020876213e9e94", func := "loop.example/g00924/laws.FnExactJumpIn", spec := "fnExactJumpIn", apart := false, narrowed := true }
def FnExactJumpInUptoSaid : Prop := fnExactJumpInUptoRow.holds Try.pinned (OpenSpec.upto fnExactJumpInSpec)

/-- 'laws.FnExactLongestCalm', WHERE WHAT IT READS IS OF BULK AT MOST 1048576: true; the input reads as it did. -/
def fnExactLongestCalmUptoRow : OpenClaim := { program := "yteeljlpbijmhlaa", sum := "5890ff90df2fc11b937d7491a7729890659a321a7a214c2858020876213e9e94", func := "loop.example/g00924/laws.FnExactLongestCalm", spec := "fnExactLongestCalm", apart := false, narrowed := true }
def FnExactLongestCalmUptoSaid : Prop := fnExactLongestCalmUptoRow.holds Try.pinned (OpenSpec.upto fnExactLongestCalmSpec)

/-- 'laws.FnExactCommonBound', WHERE WHAT IT READS IS OF BULK AT MOST 1048576: true; the input reads as it did. -/
def fnExactCommonBoundUptoRow : OpenClaim := { program := "yteeljlpbijmhlaa", sum := "5890ff90df2fc11b937d7491a7729890659a321a7a214c2858020876213e9e94", func := "loop.example/g00924/laws.FnExactCommonBound", spec := "fnExactCommonBound", apart := false, narrowed := true }
def FnExactCommonBoundUptoSaid : Prop := fnExactCommonBoundUptoRow.holds Try.pinned (OpenSpec.upto fnExactCommonBoundSpec)

/-- 'laws.FnExactTrustedBound', WHERE WHAT IT READS IS OF BULK AT MOST 1048576: true; the input reads as it did. -/
def fnExactTrustedBoundUptoRow : OpenClaim := { program := "yteeljlpbijmhlaa", sum := "5890ff90df2fc11b937d7491a7729890659a321a7a214c2858020876213e9e94", func := "loop.example/g00924/laws.FnExactTrustedBound", spec := "fnExactTrustedBound", apart := false, narrowed := true }
def FnExactTrustedBoundUptoSaid : Prop := fnExactTrustedBoundUptoRow.holds Try.pinned (OpenSpec.upto fnExactTrustedBoundSpec)

/-- 'laws.FnExactFewestFaults', WHERE WHAT IT READS IS OF BULK AT MOST 1048576: true; the input reads as it did. -/
def fnExactFewestFaultsUptoRow : OpenClaim := { program := "yteeljlpbijmhlaa", sum := "5890ff90df2fc11b937d7491a7729890659a321a7a214c2858020876213e9e94", func := "loop.example/g00924/laws.FnExactFewestFaults", spec := "fnExactFewestFaults", apart := false, narrowed := true }
def FnExactFewestFaultsUptoSaid : Prop := fnExactFewestFaultsUptoRow.holds Try.pinned (OpenSpec.upto fnExactFewestFaultsSpec)

/-- 'laws.FnSensors', WHERE WHAT IT READS IS OF BULK AT MOST 1048576: true; the input reads as it did. -/
def fnSensorsUptoRow : OpenClaim := { program := "yteeljlpbijmhlaa", sum := "5890ff90df2fc11b937d7491a7729890659a321a7a214c2858020876213e9e94", func := "loop.example/g00924/laws.FnSensors", spec := "fnSensors", unfollowed := true, recurses := true, apart := false, narrowed := true }
def FnSensorsUptoSaid : Prop := fnSensorsUptoRow.holds Try.pinned (OpenSpec.upto fnSensorsSpec)

/-- 'laws.FnSeries', WHERE WHAT IT READS IS OF BULK AT MOST 1048576: true; the input reads as it did. -/
def fnSeriesUptoRow : OpenClaim := { program := "yteeljlpbijmhlaa", sum := "5890ff90df2fc11b937d7491a7729890659a321a7a214c2858020876213e9e94", func := "loop.example/g00924/laws.FnSeries", spec := "fnSeries", apart := false, narrowed := true }
def FnSeriesUptoSaid : Prop := fnSeriesUptoRow.holds Try.pinned (OpenSpec.upto fnSeriesSpec)

/-- 'laws.FnTrust', WHERE WHAT IT READS IS OF BULK AT MOST 1048576: true; the input reads as it did. -/
def fnTrustUptoRow : OpenClaim := { program := "yteeljlpbijmhlaa", sum := "5890ff90df2fc11b937d7491a7729890659a321a7a214c2858020876213e9e94", func := "loop.example/g00924/laws.FnTrust", spec := "fnTrust", apart := false, narrowed := true }
def FnTrustUptoSaid : Prop := fnTrustUptoRow.holds Try.pinned (OpenSpec.upto fnTrustSpec)

end Rows
end Go.Proofs.Yteeljlpbijmhlaa
