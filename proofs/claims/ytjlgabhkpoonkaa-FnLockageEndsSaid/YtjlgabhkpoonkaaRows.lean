/-
  No cell of these rows narrows 'for every input' (looked for: loops, veiled, ifaces, maps, wideKeys, modest, calm, conditions, laid).
  DERIVED. THE GIVEN ROWS OF THIS SEAT. 10 by the template 'for every input the law returns true; each argument reads behind the call as it read before'; 0 by the template 'total and deterministic' (their statements: YtjlgabhkpoonkaaTotals.lean).
  GIVEN WITH THE SEED: the statements are not yours to turn. If you find one false, say at which input.
  Laid BY PROGRAM, IN A SANDBOX (cutbox-rows.mjs): the forced cells as the released guide's own fill.sh prints them over the translation cc665a896f0ef283… (all of the seat's roots in one cut). By AI agents, Wed Nov 11 2026. No macro, syntax, notation, axiom, sorry.
-/
import Derived.Test.YtjlgabhkpoonkaaChecked
import GoSem.Claim
import GoSem.ClaimJoined
import GoSem.ClaimMapViews
import Derived.JoinedTies
import Derived.KernelRfl
namespace Go.Proofs.Ytjlgabhkpoonkaa
/- THE CELL 'sum', in the pinned program and in every row, IS THE sha256 OF THE DUMP (.gsa) THAT YtjlgabhkpoonkaaProg.lean LOADS. Nothing in Lean hashes anything: it is a label: what it is worth is what the hold of that sum in a sandbox is worth. -/
noncomputable def Try.pinned : Pinned := { name := "ytjlgabhkpoonkaa", sum := "cc665a896f0ef28341e8ece5fdb7d1393263d6de0a74f230e6b9fcf3b10fa183", checked := Try.checked }
namespace Rows
def none {H : Type} : Left H := { results := [], args := [] }

/-- 'laws.FnLockageEnds': WHATEVER THE INPUT: true; the input reads as it did. -/
def fnLockageEndsSpec : ChangeSpec := { name := "fnLockageEnds", fn := fun _ => fun
  | [d] => { results := [.lit (.bool true)], args := [d] }
  | _ => none }
def fnLockageEndsRow : OpenClaim := { program := "ytjlgabhkpoonkaa", sum := "cc665a896f0ef28341e8ece5fdb7d1393263d6de0a74f230e6b9fcf3b10fa183", func := "loop.example/g00924/laws.FnLockageEnds", spec := "fnLockageEnds", unfollowed := true, recurses := true, apart := false }
def FnLockageEndsSaid : Prop := fnLockageEndsRow.holds Try.pinned (OpenSpec.ofChange fnLockageEndsSpec)

/-- ITS FALSE NEIGHBOUR: 'it returns false'. Refute it at one input. -/
def fnLockageEndsWrong : ChangeSpec := { name := "fnLockageEnds", fn := fun _ => fun
  | [d] => { results := [.lit (.bool false)], args := [d] }
  | _ => none }
def FnLockageEndsWrongFalsely : Prop := fnLockageEndsRow.holds Try.pinned (OpenSpec.ofChange fnLockageEndsWrong)

/-- 'laws.FnExactAreArrivals': WHATEVER THE INPUT: true; the input reads as it did. -/
def fnExactAreArrivalsSpec : ChangeSpec := { name := "fnExactAreArrivals", fn := fun _ => fun
  | [d] => { results := [.lit (.bool true)], args := [d] }
  | _ => none }
def fnExactAreArrivalsRow : OpenClaim := { program := "ytjlgabhkpoonkaa", sum := "cc665a896f0ef28341e8ece5fdb7d1393263d6de0a74f230e6b9fcf3b10fa183", func := "loop.example/g00924/laws.FnExactAreArrivals", spec := "fnExactAreArrivals", apart := false }
def FnExactAreArrivalsSaid : Prop := fnExactAreArrivalsRow.holds Try.pinned (OpenSpec.ofChange fnExactAreArrivalsSpec)

/-- ITS FALSE NEIGHBOUR: 'it returns false'. Refute it at one input. -/
def fnExactAreArrivalsWrong : ChangeSpec := { name := "fnExactAreArrivals", fn := fun _ => fun
  | [d] => { results := [.lit (.bool false)], args := [d] }
  | _ => none }
def FnExactAreArrivalsWrongFalsely : Prop := fnExactAreArrivalsRow.holds Try.pinned (OpenSpec.ofChange fnExactAreArrivalsWrong)

/-- 'laws.FnExactIsLockageOrder': WHATEVER THE INPUT: true; the input reads as it did. -/
def fnExactIsLockageOrderSpec : ChangeSpec := { name := "fnExactIsLockageOrder", fn := fun _ => fun
  | [d1, d2] => { results := [.lit (.bool true)], args := [d1, d2] }
  | _ => none }
def fnExactIsLockageOrderRow : OpenClaim := { program := "ytjlgabhkpoonkaa", sum := "cc665a896f0ef28341e8ece5fdb7d1393263d6de0a74f230e6b9fcf3b10fa183", func := "loop.example/g00924/laws.FnExactIsLockageOrder", spec := "fnExactIsLockageOrder", unfollowed := true, recurses := true, apart := false }
def FnExactIsLockageOrderSaid : Prop := fnExactIsLockageOrderRow.holds Try.pinned (OpenSpec.ofChange fnExactIsLockageOrderSpec)

/-- ITS FALSE NEIGHBOUR: 'it returns false'. Refute it at one input. -/
def fnExactIsLockageOrderWrong : ChangeSpec := { name := "fnExactIsLockageOrder", fn := fun _ => fun
  | [d1, d2] => { results := [.lit (.bool false)], args := [d1, d2] }
  | _ => none }
def FnExactIsLockageOrderWrongFalsely : Prop := fnExactIsLockageOrderRow.holds Try.pinned (OpenSpec.ofChange fnExactIsLockageOrderWrong)

/-- 'laws.FnExactLockageTimes': WHATEVER THE INPUT: true; the input reads as it did. -/
def fnExactLockageTimesSpec : ChangeSpec := { name := "fnExactLockageTimes", fn := fun _ => fun
  | [d1, d2, d3, d4] => { results := [.lit (.bool true)], args := [d1, d2, d3, d4] }
  | _ => none }
def fnExactLockageTimesRow : OpenClaim := { program := "ytjlgabhkpoonkaa", sum := "cc665a896f0ef28341e8ece5fdb7d1393263d6de0a74f230e6b9fcf3b10fa183", func := "loop.example/g00924/laws.FnExactLockageTimes", spec := "fnExactLockageTimes", unfollowed := true, recurses := true, apart := false }
def FnExactLockageTimesSaid : Prop := fnExactLockageTimesRow.holds Try.pinned (OpenSpec.ofChange fnExactLockageTimesSpec)

/-- ITS FALSE NEIGHBOUR: 'it returns false'. Refute it at one input. -/
def fnExactLockageTimesWrong : ChangeSpec := { name := "fnExactLockageTimes", fn := fun _ => fun
  | [d1, d2, d3, d4] => { results := [.lit (.bool false)], args := [d1, d2, d3, d4] }
  | _ => none }
def FnExactLockageTimesWrongFalsely : Prop := fnExactLockageTimesRow.holds Try.pinned (OpenSpec.ofChange fnExactLockageTimesWrong)

/-- 'laws.FnExactLockageDelay': WHATEVER THE INPUT: true; the input reads as it did. -/
def fnExactLockageDelaySpec : ChangeSpec := { name := "fnExactLockageDelay", fn := fun _ => fun
  | [d1, d2, d3, d4] => { results := [.lit (.bool true)], args := [d1, d2, d3, d4] }
  | _ => none }
def fnExactLockageDelayRow : OpenClaim := { program := "ytjlgabhkpoonkaa", sum := "cc665a896f0ef28341e8ece5fdb7d1393263d6de0a74f230e6b9fcf3b10fa183", func := "loop.example/g00924/laws.FnExactLockageDelay", spec := "fnExactLockageDelay", unfollowed := true, recurses := true, apart := false }
def FnExactLockageDelaySaid : Prop := fnExactLockageDelayRow.holds Try.pinned (OpenSpec.ofChange fnExactLockageDelaySpec)

/-- ITS FALSE NEIGHBOUR: 'it returns false'. Refute it at one input. -/
def fnExactLockageDelayWrong : ChangeSpec := { name := "fnExactLockageDelay", fn := fun _ => fun
  | [d1, d2, d3, d4] => { results := [.lit (.bool false)], args := [d1, d2, d3, d4] }
  | _ => none }
def FnExactLockageDelayWrongFalsely : Prop := fnExactLockageDelayRow.holds Try.pinned (OpenSpec.ofChange fnExactLockageDelayWrong)

/-- 'laws.FnExactBestLockages': WHATEVER THE INPUT: true; the input reads as it did. -/
def fnExactBestLockagesSpec : ChangeSpec := { name := "fnExactBestLockages", fn := fun _ => fun
  | [d1, d2, d3] => { results := [.lit (.bool true)], args := [d1, d2, d3] }
  | _ => none }
def fnExactBestLockagesRow : OpenClaim := { program := "ytjlgabhkpoonkaa", sum := "cc665a896f0ef28341e8ece5fdb7d1393263d6de0a74f230e6b9fcf3b10fa183", func := "loop.example/g00924/laws.FnExactBestLockages", spec := "fnExactBestLockages", unfollowed := true, recurses := true, apart := false }
def FnExactBestLockagesSaid : Prop := fnExactBestLockagesRow.holds Try.pinned (OpenSpec.ofChange fnExactBestLockagesSpec)

/-- ITS FALSE NEIGHBOUR: 'it returns false'. Refute it at one input. -/
def fnExactBestLockagesWrong : ChangeSpec := { name := "fnExactBestLockages", fn := fun _ => fun
  | [d1, d2, d3] => { results := [.lit (.bool false)], args := [d1, d2, d3] }
  | _ => none }
def FnExactBestLockagesWrongFalsely : Prop := fnExactBestLockagesRow.holds Try.pinned (OpenSpec.ofChange fnExactBestLockagesWrong)

/-- 'laws.FnExactFirstComeLockages': WHATEVER THE INPUT: true; the input reads as it did. -/
def fnExactFirstComeLockagesSpec : ChangeSpec := { name := "fnExactFirstComeLockages", fn := fun _ => fun
  | [d] => { results := [.lit (.bool true)], args := [d] }
  | _ => none }
def fnExactFirstComeLockagesRow : OpenClaim := { program := "ytjlgabhkpoonkaa", sum := "cc665a896f0ef28341e8ece5fdb7d1393263d6de0a74f230e6b9fcf3b10fa183", func := "loop.example/g00924/laws.FnExactFirstComeLockages", spec := "fnExactFirstComeLockages", unfollowed := true, recurses := true, apart := false }
def FnExactFirstComeLockagesSaid : Prop := fnExactFirstComeLockagesRow.holds Try.pinned (OpenSpec.ofChange fnExactFirstComeLockagesSpec)

/-- ITS FALSE NEIGHBOUR: 'it returns false'. Refute it at one input. -/
def fnExactFirstComeLockagesWrong : ChangeSpec := { name := "fnExactFirstComeLockages", fn := fun _ => fun
  | [d] => { results := [.lit (.bool false)], args := [d] }
  | _ => none }
def FnExactFirstComeLockagesWrongFalsely : Prop := fnExactFirstComeLockagesRow.holds Try.pinned (OpenSpec.ofChange fnExactFirstComeLockagesWrong)

/-- 'laws.FnExactEmptyTurns': WHATEVER THE INPUT: true; the input reads as it did. -/
def fnExactEmptyTurnsSpec : ChangeSpec := { name := "fnExactEmptyTurns", fn := fun _ => fun
  | [d1, d2, d3] => { results := [.lit (.bool true)], args := [d1, d2, d3] }
  | _ => none }
def fnExactEmptyTurnsRow : OpenClaim := { program := "ytjlgabhkpoonkaa", sum := "cc665a896f0ef28341e8ece5fdb7d1393263d6de0a74f230e6b9fcf3b10fa183", func := "loop.example/g00924/laws.FnExactEmptyTurns", spec := "fnExactEmptyTurns", unfollowed := true, recurses := true, apart := false }
def FnExactEmptyTurnsSaid : Prop := fnExactEmptyTurnsRow.holds Try.pinned (OpenSpec.ofChange fnExactEmptyTurnsSpec)

/-- ITS FALSE NEIGHBOUR: 'it returns false'. Refute it at one input. -/
def fnExactEmptyTurnsWrong : ChangeSpec := { name := "fnExactEmptyTurns", fn := fun _ => fun
  | [d1, d2, d3] => { results := [.lit (.bool false)], args := [d1, d2, d3] }
  | _ => none }
def FnExactEmptyTurnsWrongFalsely : Prop := fnExactEmptyTurnsRow.holds Try.pinned (OpenSpec.ofChange fnExactEmptyTurnsWrong)

/-- 'laws.FnExactLastLockage': WHATEVER THE INPUT: true; the input reads as it did. -/
def fnExactLastLockageSpec : ChangeSpec := { name := "fnExactLastLockage", fn := fun _ => fun
  | [d1, d2, d3, d4] => { results := [.lit (.bool true)], args := [d1, d2, d3, d4] }
  | _ => none }
def fnExactLastLockageRow : OpenClaim := { program := "ytjlgabhkpoonkaa", sum := "cc665a896f0ef28341e8ece5fdb7d1393263d6de0a74f230e6b9fcf3b10fa183", func := "loop.example/g00924/laws.FnExactLastLockage", spec := "fnExactLastLockage", unfollowed := true, recurses := true, apart := false }
def FnExactLastLockageSaid : Prop := fnExactLastLockageRow.holds Try.pinned (OpenSpec.ofChange fnExactLastLockageSpec)

/-- ITS FALSE NEIGHBOUR: 'it returns false'. Refute it at one input. -/
def fnExactLastLockageWrong : ChangeSpec := { name := "fnExactLastLockage", fn := fun _ => fun
  | [d1, d2, d3, d4] => { results := [.lit (.bool false)], args := [d1, d2, d3, d4] }
  | _ => none }
def FnExactLastLockageWrongFalsely : Prop := fnExactLastLockageRow.holds Try.pinned (OpenSpec.ofChange fnExactLastLockageWrong)

/-- 'laws.FnExactLongestWait': WHATEVER THE INPUT: true; the input reads as it did. -/
def fnExactLongestWaitSpec : ChangeSpec := { name := "fnExactLongestWait", fn := fun _ => fun
  | [d1, d2, d3, d4] => { results := [.lit (.bool true)], args := [d1, d2, d3, d4] }
  | _ => none }
def fnExactLongestWaitRow : OpenClaim := { program := "ytjlgabhkpoonkaa", sum := "cc665a896f0ef28341e8ece5fdb7d1393263d6de0a74f230e6b9fcf3b10fa183", func := "loop.example/g00924/laws.FnExactLongestWait", spec := "fnExactLongestWait", unfollowed := true, recurses := true, apart := false }
def FnExactLongestWaitSaid : Prop := fnExactLongestWaitRow.holds Try.pinned (OpenSpec.ofChange fnExactLongestWaitSpec)

/-- ITS FALSE NEIGHBOUR: 'it returns false'. Refute it at one input. -/
def fnExactLongestWaitWrong : ChangeSpec := { name := "fnExactLongestWait", fn := fun _ => fun
  | [d1, d2, d3, d4] => { results := [.lit (.bool false)], args := [d1, d2, d3, d4] }
  | _ => none }
def FnExactLongestWaitWrongFalsely : Prop := fnExactLongestWaitRow.holds Try.pinned (OpenSpec.ofChange fnExactLongestWaitWrong)

/- THE SECOND FORM. 'bulk': how many values and letters a reading holds, each counted each time it is reached (what is shared counts as often as it is met; a slice's spare places count too). A statement '..UptoSaid' is the law's where the arguments, and the package variables that the reading takes, are together of bulk at most 1048576: NARROWER than '..Said'. Prove '..Said' where nothing that the law and all that it calls make is longer than what came in: it says more and counts as full. Else prove '..UptoSaid'. A law counts once. -/
mutual
def uptoBulk {H : Type} : DataW H → Nat
  | .lit (.string bytes) => bytes.length + 1
  | .lit _ => 1
  | .nil => 1
  | .ptr d => uptoBulk d + 1
  | .slice elems spare => uptoBulkAll elems + uptoBulkAll spare + 1
  | .agg parts => uptoBulkAll parts + 1
  | .iface _ d => uptoBulk d + 1
  | .map entries => uptoBulkEntries entries + 1
  | .held _ => 1
def uptoBulkAll {H : Type} : List (DataW H) → Nat
  | [] => 0
  | d :: r => uptoBulk d + uptoBulkAll r
def uptoBulkEntries {H : Type} : List (Lit × DataW H) → Nat
  | [] => 0
  | x :: r => uptoBulkEntry x + uptoBulkEntries r
def uptoBulkEntry {H : Type} : Lit × DataW H → Nat
  | (.string bytes, d) => bytes.length + uptoBulk d + 1
  | (_, d) => uptoBulk d + 1
 end
def uptoSmall : (H : Type) → List (DataW H) → Bool := fun _ ds => decide (uptoBulkAll ds ≤ 1048576)
def OpenSpec.upto (s : _root_.Go.ChangeSpec) : _root_.Go.OpenSpec := { _root_.Go.OpenSpec.ofChange s with cond := some uptoSmall }

/-- 'laws.FnLockageEnds', WHERE WHAT IT READS IS OF BULK AT MOST 1048576: true; the input reads as it did. -/
def fnLockageEndsUptoRow : OpenClaim := { program := "ytjlgabhkpoonkaa", sum := "cc665a896f0ef28341e8ece5fdb7d1393263d6de0a74f230e6b9fcf3b10fa183", func := "loop.example/g00924/laws.FnLockageEnds", spec := "fnLockageEnds", unfollowed := true, recurses := true, apart := false, narrowed := true }
def FnLockageEndsUptoSaid : Prop := fnLockageEndsUptoRow.holds Try.pinned (OpenSpec.upto fnLockageEndsSpec)

/-- 'laws.FnExactAreArrivals', WHERE WHAT IT READS IS OF BULK AT MOST 1048576: true; the input reads as it did. -/
def fnExactAreArrivalsUptoRow : OpenClaim := { program := "ytjlgabhkpoonkaa", sum := "cc665a896f0ef28341e8ece5fdb7d1393263d6de0a74f230e6b9fcf3b10fa183", func := "loop.example/g00924/laws.FnExactAreArrivals", spec := "fnExactAreArrivals", apart := false, narrowed := true }
def FnExactAreArrivalsUptoSaid : Prop := fnExactAreArrivalsUptoRow.holds Try.pinned (OpenSpec.upto fnExactAreArrivalsSpec)

/-- 'laws.FnExactIsLockageOrder', WHERE WHAT IT READS IS OF BULK AT MOST 1048576: true; the input reads as it did. -/
def fnExactIsLockageOrderUptoRow : OpenClaim := { program := "ytjlgabhkpoonkaa", sum := "cc665a896f0ef28341e8ece5fdb7d1393263d6de0a74f230e6b9fcf3b10fa183", func := "loop.example/g00924/laws.FnExactIsLockageOrder", spec := "fnExactIsLockageOrder", unfollowed := true, recurses := true, apart := false, narrowed := true }
def FnExactIsLockageOrderUptoSaid : Prop := fnExactIsLockageOrderUptoRow.holds Try.pinned (OpenSpec.upto fnExactIsLockageOrderSpec)

/-- 'laws.FnExactLockageTimes', WHERE WHAT IT READS IS OF BULK AT MOST 1048576: true; the input reads as it did. -/
def fnExactLockageTimesUptoRow : OpenClaim := { program := "ytjlgabhkpoonkaa", sum := "cc665a896f0ef28341e8ece5fdb7d1393263d6de0a74f230e6b9fcf3b10fa183", func := "loop.example/g00924/laws.FnExactLockageTimes", spec := "fnExactLockageTimes", unfollowed := true, recurses := true, apart := false, narrowed := true }
def FnExactLockageTimesUptoSaid : Prop := fnExactLockageTimesUptoRow.holds Try.pinned (OpenSpec.upto fnExactLockageTimesSpec)

/-- 'laws.FnExactLockageDelay', WHERE WHAT IT READS IS OF BULK AT MOST 1048576: true; the input reads as it did. -/
def fnExactLockageDelayUptoRow : OpenClaim := { program := "ytjlgabhkpoonkaa", sum := "cc665a896f0ef28341e8ece5fdb7d1393263d6de0a74f230e6b9fcf3b10fa183", func := "loop.example/g00924/laws.FnExactLockageDelay", spec := "fnExactLockageDelay", unfollowed := true, recurses := true, apart := false, narrowed := true }
def FnExactLockageDelayUptoSaid : Prop := fnExactLockageDelayUptoRow.holds Try.pinned (OpenSpec.upto fnExactLockageDelaySpec)

/-- 'laws.FnExactBestLockages', WHERE WHAT IT READS IS OF BULK AT MOST 1048576: true; the input reads as it did. -/
def fnExactBestLockagesUptoRow : OpenClaim := { program := "ytjlgabhkpoonkaa", sum := "cc665a896f0ef28341e8ece5fdb7d1393263d6de0a74f230e6b9fcf3b10fa183", func := "loop.example/g00924/laws.FnExactBestLockages", spec := "fnExactBestLockages", unfollowed := true, recurses := true, apart := false, narrowed := true }
def FnExactBestLockagesUptoSaid : Prop := fnExactBestLockagesUptoRow.holds Try.pinned (OpenSpec.upto fnExactBestLockagesSpec)

/-- 'laws.FnExactFirstComeLockages', WHERE WHAT IT READS IS OF BULK AT MOST 1048576: true; the input reads as it did. -/
def fnExactFirstComeLockagesUptoRow : OpenClaim := { program := "ytjlgabhkpoonkaa", sum := "cc665a896f0ef28341e8ece5fdb7d1393263d6de0a74f230e6b9fcf3b10fa183", func := "loop.example/g00924/laws.FnExactFirstComeLockages", spec := "fnExactFirstComeLockages", unfollowed := true, recurses := true, apart := false, narrowed := true }
def FnExactFirstComeLockagesUptoSaid : Prop := fnExactFirstComeLockagesUptoRow.holds Try.pinned (OpenSpec.upto fnExactFirstComeLockagesSpec)

/-- 'laws.FnExactEmptyTurns', WHERE WHAT IT READS IS OF BULK AT MOST 1048576: true; the input reads as it did. -/
def fnExactEmptyTurnsUptoRow : OpenClaim := { program := "ytjlgabhkpoonkaa", sum := "cc665a896f0ef28341e8ece5fdb7d1393263d6de0a74f230e6b9fcf3b10fa183", func := "loop.example/g00924/laws.FnExactEmptyTurns", spec := "fnExactEmptyTurns", unfollowed := true, recurses := true, apart := false, narrowed := true }
def FnExactEmptyTurnsUptoSaid : Prop := fnExactEmptyTurnsUptoRow.holds Try.pinned (OpenSpec.upto fnExactEmptyTurnsSpec)

/-- 'laws.FnExactLastLockage', WHERE WHAT IT READS IS OF BULK AT MOST 1048576: true; the input reads as it did. -/
def fnExactLastLockageUptoRow : OpenClaim := { program := "ytjlgabhkpoonkaa", sum := "cc665a896f0ef28341e8ece5fdb7d1393263d6de0a74f230e6b9fcf3b10fa183", func := "loop.example/g00924/laws.FnExactLastLockage", spec := "fnExactLastLockage", unfollowed := true, recurses := true, apart := false, narrowed := true }
def FnExactLastLockageUptoSaid : Prop := fnExactLastLockageUptoRow.holds Try.pinned (OpenSpec.upto fnExactLastLockageSpec)

/-- 'laws.FnExactLongestWait', WHERE WHAT IT READS IS OF BULK AT MOST 1048576: true; the input reads as it did. -/
def fnExactLongestWaitUptoRow : OpenClaim := { program := "ytjlgabhkpoonkaa", sum := "cc665a896f0ef28341e8ece5fdb7d1393263d6de0a74f230e6b9fcf3b10fa183", func := "loop.example/g00924/laws.FnExactLongestWait", spec := "fnExactLongestWait", unfollowed := true, recurses := true, apart := false, narrowed := true }
def FnExactLongestWaitUptoSaid : Prop := fnExactLongestWaitUptoRow.holds Try.pinned (OpenSpec.upto fnExactLongestWaitSpec)

end Rows
end Go.Proofs.Ytjlgabhkpoonkaa
