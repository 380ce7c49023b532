/-
  No cell of these rows narrows 'for every input' (looked for: loops, veiled, ifaces, maps, wideKeys, modest, calm, conditions, laid).
  DERIVED. THE GIVEN ROWS OF THIS SEAT. 11 by the template 'for every input the law returns true; each argument reads behind the call as it read before'; 0 by the template 'total and deterministic' (their statements: YtacpmckdfddmeaaTotals.lean).
  GIVEN WITH THE SEED: the statements are not yours to turn. If you find one false, say at which input.
  Laid BY PROGRAM, IN A SANDBOX (cutbox-rows.mjs): the forced cells as the released guide's own fill.sh prints them over the translation 9405f81c5ee1acf5… (all of the seat's roots in one cut). By AI agents, Wed Nov 11 2026. No macro, syntax, notation, axiom, sorry.
-/
import Derived.Test.YtacpmckdfddmeaaChecked
import GoSem.Claim
import GoSem.ClaimJoined
import GoSem.ClaimMapViews
import Derived.JoinedTies
import Derived.KernelRfl
namespace Go.Proofs.Ytacpmckdfddmeaa
/- THE CELL 'sum', in the pinned program and in every row, IS THE sha256 OF THE DUMP (.gsa) THAT YtacpmckdfddmeaaProg.lean LOADS. Nothing in Lean hashes anything: it is a label: what it is worth is what the hold of that sum in a sandbox is worth. -/
noncomputable def Try.pinned : Pinned := { name := "ytacpmckdfddmeaa", sum := "9405f81c5ee1acf5baf2d0df1b8ae02bb7743f09cab2ca8bd1f22d3e6a57ecdf", checked := Try.checked }
namespace Rows
def none {H : Type} : Left H := { results := [], args := [] }

/-- 'laws.FnRows': WHATEVER THE INPUT: true; the input reads as it did. -/
def fnRowsSpec : ChangeSpec := { name := "fnRows", fn := fun _ => fun
  | [d] => { results := [.lit (.bool true)], args := [d] }
  | _ => none }
def fnRowsRow : OpenClaim := { program := "ytacpmckdfddmeaa", sum := "9405f81c5ee1acf5baf2d0df1b8ae02bb7743f09cab2ca8bd1f22d3e6a57ecdf", func := "loop.example/g00924/laws.FnRows", spec := "fnRows", unfollowed := true, recurses := true, apart := false }
def FnRowsSaid : Prop := fnRowsRow.holds Try.pinned (OpenSpec.ofChange fnRowsSpec)

/-- ITS FALSE NEIGHBOUR: 'it returns false'. Refute it at one input. -/
def fnRowsWrong : ChangeSpec := { name := "fnRows", fn := fun _ => fun
  | [d] => { results := [.lit (.bool false)], args := [d] }
  | _ => none }
def FnRowsWrongFalsely : Prop := fnRowsRow.holds Try.pinned (OpenSpec.ofChange fnRowsWrong)

/-- 'laws.FnCones': WHATEVER THE INPUT: true; the input reads as it did. -/
def fnConesSpec : ChangeSpec := { name := "fnCones", fn := fun _ => fun
  | [d] => { results := [.lit (.bool true)], args := [d] }
  | _ => none }
def fnConesRow : OpenClaim := { program := "ytacpmckdfddmeaa", sum := "9405f81c5ee1acf5baf2d0df1b8ae02bb7743f09cab2ca8bd1f22d3e6a57ecdf", func := "loop.example/g00924/laws.FnCones", spec := "fnCones", unfollowed := true, recurses := true, apart := false }
def FnConesSaid : Prop := fnConesRow.holds Try.pinned (OpenSpec.ofChange fnConesSpec)

/-- ITS FALSE NEIGHBOUR: 'it returns false'. Refute it at one input. -/
def fnConesWrong : ChangeSpec := { name := "fnCones", fn := fun _ => fun
  | [d] => { results := [.lit (.bool false)], args := [d] }
  | _ => none }
def FnConesWrongFalsely : Prop := fnConesRow.holds Try.pinned (OpenSpec.ofChange fnConesWrong)

/-- 'laws.FnExactIsCargoList': WHATEVER THE INPUT: true; the input reads as it did. -/
def fnExactIsCargoListSpec : ChangeSpec := { name := "fnExactIsCargoList", fn := fun _ => fun
  | [d] => { results := [.lit (.bool true)], args := [d] }
  | _ => none }
def fnExactIsCargoListRow : OpenClaim := { program := "ytacpmckdfddmeaa", sum := "9405f81c5ee1acf5baf2d0df1b8ae02bb7743f09cab2ca8bd1f22d3e6a57ecdf", func := "loop.example/g00924/laws.FnExactIsCargoList", spec := "fnExactIsCargoList", unfollowed := true, recurses := true, apart := false }
def FnExactIsCargoListSaid : Prop := fnExactIsCargoListRow.holds Try.pinned (OpenSpec.ofChange fnExactIsCargoListSpec)

/-- ITS FALSE NEIGHBOUR: 'it returns false'. Refute it at one input. -/
def fnExactIsCargoListWrong : ChangeSpec := { name := "fnExactIsCargoList", fn := fun _ => fun
  | [d] => { results := [.lit (.bool false)], args := [d] }
  | _ => none }
def FnExactIsCargoListWrongFalsely : Prop := fnExactIsCargoListRow.holds Try.pinned (OpenSpec.ofChange fnExactIsCargoListWrong)

/-- 'laws.FnExactNeededGap': WHATEVER THE INPUT: true; the input reads as it did. -/
def fnExactNeededGapSpec : ChangeSpec := { name := "fnExactNeededGap", fn := fun _ => fun
  | [d1, d2] => { results := [.lit (.bool true)], args := [d1, d2] }
  | _ => none }
def fnExactNeededGapRow : OpenClaim := { program := "ytacpmckdfddmeaa", sum := "9405f81c5ee1acf5baf2d0df1b8ae02bb7743f09cab2ca8bd1f22d3e6a57ecdf", func := "loop.example/g00924/laws.FnExactNeededGap", spec := "fnExactNeededGap", apart := false }
def FnExactNeededGapSaid : Prop := fnExactNeededGapRow.holds Try.pinned (OpenSpec.ofChange fnExactNeededGapSpec)

/-- ITS FALSE NEIGHBOUR: 'it returns false'. Refute it at one input. -/
def fnExactNeededGapWrong : ChangeSpec := { name := "fnExactNeededGap", fn := fun _ => fun
  | [d1, d2] => { results := [.lit (.bool false)], args := [d1, d2] }
  | _ => none }
def FnExactNeededGapWrongFalsely : Prop := fnExactNeededGapRow.holds Try.pinned (OpenSpec.ofChange fnExactNeededGapWrong)

/-- 'laws.FnExactPlaceRow': WHATEVER THE INPUT: true; the input reads as it did. -/
def fnExactPlaceRowSpec : ChangeSpec := { name := "fnExactPlaceRow", fn := fun _ => fun
  | [d] => { results := [.lit (.bool true)], args := [d] }
  | _ => none }
def fnExactPlaceRowRow : OpenClaim := { program := "ytacpmckdfddmeaa", sum := "9405f81c5ee1acf5baf2d0df1b8ae02bb7743f09cab2ca8bd1f22d3e6a57ecdf", func := "loop.example/g00924/laws.FnExactPlaceRow", spec := "fnExactPlaceRow", unfollowed := true, recurses := true, apart := false }
def FnExactPlaceRowSaid : Prop := fnExactPlaceRowRow.holds Try.pinned (OpenSpec.ofChange fnExactPlaceRowSpec)

/-- ITS FALSE NEIGHBOUR: 'it returns false'. Refute it at one input. -/
def fnExactPlaceRowWrong : ChangeSpec := { name := "fnExactPlaceRow", fn := fun _ => fun
  | [d] => { results := [.lit (.bool false)], args := [d] }
  | _ => none }
def FnExactPlaceRowWrongFalsely : Prop := fnExactPlaceRowRow.holds Try.pinned (OpenSpec.ofChange fnExactPlaceRowWrong)

/-- 'laws.FnExactRowExtent': WHATEVER THE INPUT: true; the input reads as it did. -/
def fnExactRowExtentSpec : ChangeSpec := { name := "fnExactRowExtent", fn := fun _ => fun
  | [d] => { results := [.lit (.bool true)], args := [d] }
  | _ => none }
def fnExactRowExtentRow : OpenClaim := { program := "ytacpmckdfddmeaa", sum := "9405f81c5ee1acf5baf2d0df1b8ae02bb7743f09cab2ca8bd1f22d3e6a57ecdf", func := "loop.example/g00924/laws.FnExactRowExtent", spec := "fnExactRowExtent", unfollowed := true, recurses := true, apart := false }
def FnExactRowExtentSaid : Prop := fnExactRowExtentRow.holds Try.pinned (OpenSpec.ofChange fnExactRowExtentSpec)

/-- ITS FALSE NEIGHBOUR: 'it returns false'. Refute it at one input. -/
def fnExactRowExtentWrong : ChangeSpec := { name := "fnExactRowExtent", fn := fun _ => fun
  | [d] => { results := [.lit (.bool false)], args := [d] }
  | _ => none }
def FnExactRowExtentWrongFalsely : Prop := fnExactRowExtentRow.holds Try.pinned (OpenSpec.ofChange fnExactRowExtentWrong)

/-- 'laws.FnExactIsSafeRow': WHATEVER THE INPUT: true; the input reads as it did. -/
def fnExactIsSafeRowSpec : ChangeSpec := { name := "fnExactIsSafeRow", fn := fun _ => fun
  | [d1, d2] => { results := [.lit (.bool true)], args := [d1, d2] }
  | _ => none }
def fnExactIsSafeRowRow : OpenClaim := { program := "ytacpmckdfddmeaa", sum := "9405f81c5ee1acf5baf2d0df1b8ae02bb7743f09cab2ca8bd1f22d3e6a57ecdf", func := "loop.example/g00924/laws.FnExactIsSafeRow", spec := "fnExactIsSafeRow", unfollowed := true, recurses := true, apart := false }
def FnExactIsSafeRowSaid : Prop := fnExactIsSafeRowRow.holds Try.pinned (OpenSpec.ofChange fnExactIsSafeRowSpec)

/-- ITS FALSE NEIGHBOUR: 'it returns false'. Refute it at one input. -/
def fnExactIsSafeRowWrong : ChangeSpec := { name := "fnExactIsSafeRow", fn := fun _ => fun
  | [d1, d2] => { results := [.lit (.bool false)], args := [d1, d2] }
  | _ => none }
def FnExactIsSafeRowWrongFalsely : Prop := fnExactIsSafeRowRow.holds Try.pinned (OpenSpec.ofChange fnExactIsSafeRowWrong)

/-- 'laws.FnExactUnsafePairs': WHATEVER THE INPUT: true; the input reads as it did. -/
def fnExactUnsafePairsSpec : ChangeSpec := { name := "fnExactUnsafePairs", fn := fun _ => fun
  | [d1, d2] => { results := [.lit (.bool true)], args := [d1, d2] }
  | _ => none }
def fnExactUnsafePairsRow : OpenClaim := { program := "ytacpmckdfddmeaa", sum := "9405f81c5ee1acf5baf2d0df1b8ae02bb7743f09cab2ca8bd1f22d3e6a57ecdf", func := "loop.example/g00924/laws.FnExactUnsafePairs", spec := "fnExactUnsafePairs", unfollowed := true, recurses := true, apart := false }
def FnExactUnsafePairsSaid : Prop := fnExactUnsafePairsRow.holds Try.pinned (OpenSpec.ofChange fnExactUnsafePairsSpec)

/-- ITS FALSE NEIGHBOUR: 'it returns false'. Refute it at one input. -/
def fnExactUnsafePairsWrong : ChangeSpec := { name := "fnExactUnsafePairs", fn := fun _ => fun
  | [d1, d2] => { results := [.lit (.bool false)], args := [d1, d2] }
  | _ => none }
def FnExactUnsafePairsWrongFalsely : Prop := fnExactUnsafePairsRow.holds Try.pinned (OpenSpec.ofChange fnExactUnsafePairsWrong)

/-- 'laws.FnExactShortestRow': WHATEVER THE INPUT: true; the input reads as it did. -/
def fnExactShortestRowSpec : ChangeSpec := { name := "fnExactShortestRow", fn := fun _ => fun
  | [d] => { results := [.lit (.bool true)], args := [d] }
  | _ => none }
def fnExactShortestRowRow : OpenClaim := { program := "ytacpmckdfddmeaa", sum := "9405f81c5ee1acf5baf2d0df1b8ae02bb7743f09cab2ca8bd1f22d3e6a57ecdf", func := "loop.example/g00924/laws.FnExactShortestRow", spec := "fnExactShortestRow", unfollowed := true, recurses := true, apart := false }
def FnExactShortestRowSaid : Prop := fnExactShortestRowRow.holds Try.pinned (OpenSpec.ofChange fnExactShortestRowSpec)

/-- ITS FALSE NEIGHBOUR: 'it returns false'. Refute it at one input. -/
def fnExactShortestRowWrong : ChangeSpec := { name := "fnExactShortestRow", fn := fun _ => fun
  | [d] => { results := [.lit (.bool false)], args := [d] }
  | _ => none }
def FnExactShortestRowWrongFalsely : Prop := fnExactShortestRowRow.holds Try.pinned (OpenSpec.ofChange fnExactShortestRowWrong)

/-- 'laws.FnExactMayShareLock': WHATEVER THE INPUT: true; the input reads as it did. -/
def fnExactMayShareLockSpec : ChangeSpec := { name := "fnExactMayShareLock", fn := fun _ => fun
  | [d1, d2] => { results := [.lit (.bool true)], args := [d1, d2] }
  | _ => none }
def fnExactMayShareLockRow : OpenClaim := { program := "ytacpmckdfddmeaa", sum := "9405f81c5ee1acf5baf2d0df1b8ae02bb7743f09cab2ca8bd1f22d3e6a57ecdf", func := "loop.example/g00924/laws.FnExactMayShareLock", spec := "fnExactMayShareLock", unfollowed := true, recurses := true, apart := false }
def FnExactMayShareLockSaid : Prop := fnExactMayShareLockRow.holds Try.pinned (OpenSpec.ofChange fnExactMayShareLockSpec)

/-- ITS FALSE NEIGHBOUR: 'it returns false'. Refute it at one input. -/
def fnExactMayShareLockWrong : ChangeSpec := { name := "fnExactMayShareLock", fn := fun _ => fun
  | [d1, d2] => { results := [.lit (.bool false)], args := [d1, d2] }
  | _ => none }
def FnExactMayShareLockWrongFalsely : Prop := fnExactMayShareLockRow.holds Try.pinned (OpenSpec.ofChange fnExactMayShareLockWrong)

/-- 'laws.FnExactMostDangerous': WHATEVER THE INPUT: true; the input reads as it did. -/
def fnExactMostDangerousSpec : ChangeSpec := { name := "fnExactMostDangerous", fn := fun _ => fun
  | [d] => { results := [.lit (.bool true)], args := [d] }
  | _ => none }
def fnExactMostDangerousRow : OpenClaim := { program := "ytacpmckdfddmeaa", sum := "9405f81c5ee1acf5baf2d0df1b8ae02bb7743f09cab2ca8bd1f22d3e6a57ecdf", func := "loop.example/g00924/laws.FnExactMostDangerous", spec := "fnExactMostDangerous", unfollowed := true, recurses := true, apart := false }
def FnExactMostDangerousSaid : Prop := fnExactMostDangerousRow.holds Try.pinned (OpenSpec.ofChange fnExactMostDangerousSpec)

/-- ITS FALSE NEIGHBOUR: 'it returns false'. Refute it at one input. -/
def fnExactMostDangerousWrong : ChangeSpec := { name := "fnExactMostDangerous", fn := fun _ => fun
  | [d] => { results := [.lit (.bool false)], args := [d] }
  | _ => none }
def FnExactMostDangerousWrongFalsely : Prop := fnExactMostDangerousRow.holds Try.pinned (OpenSpec.ofChange fnExactMostDangerousWrong)

/- THE SECOND FORM. 'bulk': how many values and letters a reading holds, each counted each time it is reached (what is shared counts as often as it is met; a slice's spare places count too). A statement '..UptoSaid' is the law's where the arguments, and the package variables that the reading takes, are together of bulk at most 1048576: NARROWER than '..Said'. Prove '..Said' where nothing that the law and all that it calls make is longer than what came in: it says more and counts as full. Else prove '..UptoSaid'. A law counts once. -/
mutual
def uptoBulk {H : Type} : DataW H → Nat
  | .lit (.string bytes) => bytes.length + 1
  | .lit _ => 1
  | .nil => 1
  | .ptr d => uptoBulk d + 1
  | .slice elems spare => uptoBulkAll elems + uptoBulkAll spare + 1
  | .agg parts => uptoBulkAll parts + 1
  | .iface _ d => uptoBulk d + 1
  | .map entries => uptoBulkEntries entries + 1
  | .held _ => 1
def uptoBulkAll {H : Type} : List (DataW H) → Nat
  | [] => 0
  | d :: r => uptoBulk d + uptoBulkAll r
def uptoBulkEntries {H : Type} : List (Lit × DataW H) → Nat
  | [] => 0
  | x :: r => uptoBulkEntry x + uptoBulkEntries r
def uptoBulkEntry {H : Type} : Lit × DataW H → Nat
  | (.string bytes, d) => bytes.length + uptoBulk d + 1
  | (_, d) => uptoBulk d + 1
 end
def uptoSmall : (H : Type) → List (DataW H) → Bool := fun _ ds => decide (uptoBulkAll ds ≤ 1048576)
def OpenSpec.upto (s : _root_.Go.ChangeSpec) : _root_.Go.OpenSpec := { _root_.Go.OpenSpec.ofChange s with cond := some uptoSmall }

/-- 'laws.FnRows', WHERE WHAT IT READS IS OF BULK AT MOST 1048576: true; the input reads as it did. -/
def fnRowsUptoRow : OpenClaim := { program := "ytacpmckdfddmeaa", sum := "9405f81c5ee1acf5baf2d0df1b8ae02bb7743f09cab2ca8bd1f22d3e6a57ecdf", func := "loop.example/g00924/laws.FnRows", spec := "fnRows", unfollowed := true, recurses := true, apart := false, narrowed := true }
def FnRowsUptoSaid : Prop := fnRowsUptoRow.holds Try.pinned (OpenSpec.upto fnRowsSpec)

/-- 'laws.FnCones', WHERE WHAT IT READS IS OF BULK AT MOST 1048576: true; the input reads as it did. -/
def fnConesUptoRow : OpenClaim := { program := "ytacpmckdfddmeaa", sum := "9405f81c5ee1acf5baf2d0df1b8ae02bb7743f09cab2ca8bd1f22d3e6a57ecdf", func := "loop.example/g00924/laws.FnCones", spec := "fnCones", unfollowed := true, recurses := true, apart := false, narrowed := true }
def FnConesUptoSaid : Prop := fnConesUptoRow.holds Try.pinned (OpenSpec.upto fnConesSpec)

/-- 'laws.FnExactIsCargoList', WHERE WHAT IT READS IS OF BULK AT MOST 1048576: true; the input reads as it did. -/
def fnExactIsCargoListUptoRow : OpenClaim := { program := "ytacpmckdfddmeaa", sum := "9405f81c5ee1acf5baf2d0df1b8ae02bb7743f09cab2ca8bd1f22d3e6a57ecdf", func := "loop.example/g00924/laws.FnExactIsCargoList", spec := "fnExactIsCargoList", unfollowed := true, recurses := true, apart := false, narrowed := true }
def FnExactIsCargoListUptoSaid : Prop := fnExactIsCargoListUptoRow.holds Try.pinned (OpenSpec.upto fnExactIsCargoListSpec)

/-- 'laws.FnExactNeededGap', WHERE WHAT IT READS IS OF BULK AT MOST 1048576: true; the input reads as it did. -/
def fnExactNeededGapUptoRow : OpenClaim := { program := "ytacpmckdfddmeaa", sum := "9405f81c5ee1acf5baf2d0df1b8ae02bb7743f09cab2ca8bd1f22d3e6a57ecdf", func := "loop.example/g00924/laws.FnExactNeededGap", spec := "fnExactNeededGap", apart := false, narrowed := true }
def FnExactNeededGapUptoSaid : Prop := fnExactNeededGapUptoRow.holds Try.pinned (OpenSpec.upto fnExactNeededGapSpec)

/-- 'laws.FnExactPlaceRow', WHERE WHAT IT READS IS OF BULK AT MOST 1048576: true; the input reads as it did. -/
def fnExactPlaceRowUptoRow : OpenClaim := { program := "ytacpmckdfddmeaa", sum := "9405f81c5ee1acf5baf2d0df1b8ae02bb7743f09cab2ca8bd1f22d3e6a57ecdf", func := "loop.example/g00924/laws.FnExactPlaceRow", spec := "fnExactPlaceRow", unfollowed := true, recurses := true, apart := false, narrowed := true }
def FnExactPlaceRowUptoSaid : Prop := fnExactPlaceRowUptoRow.holds Try.pinned (OpenSpec.upto fnExactPlaceRowSpec)

/-- 'laws.FnExactRowExtent', WHERE WHAT IT READS IS OF BULK AT MOST 1048576: true; the input reads as it did. -/
def fnExactRowExtentUptoRow : OpenClaim := { program := "ytacpmckdfddmeaa", sum := "9405f81c5ee1acf5baf2d0df1b8ae02bb7743f09cab2ca8bd1f22d3e6a57ecdf", func := "loop.example/g00924/laws.FnExactRowExtent", spec := "fnExactRowExtent", unfollowed := true, recurses := true, apart := false, narrowed := true }
def FnExactRowExtentUptoSaid : Prop := fnExactRowExtentUptoRow.holds Try.pinned (OpenSpec.upto fnExactRowExtentSpec)

/-- 'laws.FnExactIsSafeRow', WHERE WHAT IT READS IS OF BULK AT MOST 1048576: true; the input reads as it did. -/
def fnExactIsSafeRowUptoRow : OpenClaim := { program := "ytacpmckdfddmeaa", sum := "9405f81c5ee1acf5baf2d0df1b8ae02bb7743f09cab2ca8bd1f22d3e6a57ecdf", func := "loop.example/g00924/laws.FnExactIsSafeRow", spec := "fnExactIsSafeRow", unfollowed := true, recurses := true, apart := false, narrowed := true }
def FnExactIsSafeRowUptoSaid : Prop := fnExactIsSafeRowUptoRow.holds Try.pinned (OpenSpec.upto fnExactIsSafeRowSpec)

/-- 'laws.FnExactUnsafePairs', WHERE WHAT IT READS IS OF BULK AT MOST 1048576: true; the input reads as it did. -/
def fnExactUnsafePairsUptoRow : OpenClaim := { program := "ytacpmckdfddmeaa", sum := "9405f81c5ee1acf5baf2d0df1b8ae02bb7743f09cab2ca8bd1f22d3e6a57ecdf", func := "loop.example/g00924/laws.FnExactUnsafePairs", spec := "fnExactUnsafePairs", unfollowed := true, recurses := true, apart := false, narrowed := true }
def FnExactUnsafePairsUptoSaid : Prop := fnExactUnsafePairsUptoRow.holds Try.pinned (OpenSpec.upto fnExactUnsafePairsSpec)

/-- 'laws.FnExactShortestRow', WHERE WHAT IT READS IS OF BULK AT MOST 1048576: true; the input reads as it did. -/
def fnExactShortestRowUptoRow : OpenClaim := { program := "ytacpmckdfddmeaa", sum := "9405f81c5ee1acf5baf2d0df1b8ae02bb7743f09cab2ca8bd1f22d3e6a57ecdf", func := "loop.example/g00924/laws.FnExactShortestRow", spec := "fnExactShortestRow", unfollowed := true, recurses := true, apart := false, narrowed := true }
def FnExactShortestRowUptoSaid : Prop := fnExactShortestRowUptoRow.holds Try.pinned (OpenSpec.upto fnExactShortestRowSpec)

/-- 'laws.FnExactMayShareLock', WHERE WHAT IT READS IS OF BULK AT MOST 1048576: true; the input reads as it did. -/
def fnExactMayShareLockUptoRow : OpenClaim := { program := "ytacpmckdfddmeaa", sum := "9405f81c5ee1acf5baf2d0df1b8ae02bb7743f09cab2ca8bd1f22d3e6a57ecdf", func := "loop.example/g00924/laws.FnExactMayShareLock", spec := "fnExactMayShareLock", unfollowed := true, recurses := true, apart := false, narrowed := true }
def FnExactMayShareLockUptoSaid : Prop := fnExactMayShareLockUptoRow.holds Try.pinned (OpenSpec.upto fnExactMayShareLockSpec)

/-- 'laws.FnExactMostDangerous', WHERE WHAT IT READS IS OF BULK AT MOST 1048576: true; the input reads as it did. -/
def fnExactMostDangerousUptoRow : OpenClaim := { program := "ytacpmckdfddmeaa", sum := "9405f81c5ee1acf5baf2d0df1b8ae02bb7743f09cab2ca8bd1f22d3e6a57ecdf", func := "loop.example/g00924/laws.FnExactMostDangerous", spec := "fnExactMostDangerous", unfollowed := true, recurses := true, apart := false, narrowed := true }
def FnExactMostDangerousUptoSaid : Prop := fnExactMostDangerousUptoRow.holds Try.pinned (OpenSpec.upto fnExactMostDangerousSpec)

end Rows
end Go.Proofs.Ytacpmckdfddmeaa
