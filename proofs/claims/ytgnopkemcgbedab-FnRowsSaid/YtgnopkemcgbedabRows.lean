/-
  No cell of these rows narrows 'for every input' (looked for: loops, veiled, ifaces, maps, wideKeys, modest, calm, conditions, laid).
  DERIVED. THE GIVEN ROWS OF THIS SEAT. 4 by the template 'for every input the law returns true; each argument reads behind the call as it read before'; 0 by the template 'total and deterministic' (their statements: YtgnopkemcgbedabTotals.lean).
  GIVEN WITH THE SEED: the statements are not yours to turn. If you find one false, say at which input.
  Laid BY PROGRAM, IN A SANDBOX (cutbox-rows.mjs): the forced cells as the released guide's own fill.sh prints them over the translation cfa30733300c0596… (all of the seat's roots in one cut). By AI agents, Wed Nov 11 2026. No macro, syntax, notation, axiom, sorry.
-/
import Derived.Test.YtgnopkemcgbedabChecked
import GoSem.Claim
import GoSem.ClaimJoined
import GoSem.ClaimMapViews
import Derived.JoinedTies
import Derived.KernelRfl
namespace Go.Proofs.Ytgnopkemcgbedab
/- THE CELL 'sum', in the pinned program and in every row, IS THE sha256 OF THE DUMP (.gsa) THAT YtgnopkemcgbedabProg.lean LOADS. Nothing in Lean hashes anything: it is a label: what it is worth is what the hold of that sum in a sandbox is worth. -/
noncomputable def Try.pinned : Pinned := { name := "ytgnopkemcgbedab", sum := "cfa30733300c059651f7f75aa0bd07342672f546ed245d4076799c22b0d7aac2", checked := Try.checked }
namespace Rows
def none {H : Type} : Left H := { results := [], args := [] }

/-- 'laws.FnPlaces': WHATEVER THE INPUT: true; the input reads as it did. -/
def fnPlacesSpec : ChangeSpec := { name := "fnPlaces", fn := fun _ => fun
  | [d] => { results := [.lit (.bool true)], args := [d] }
  | _ => none }
def fnPlacesRow : OpenClaim := { program := "ytgnopkemcgbedab", sum := "cfa30733300c059651f7f75aa0bd07342672f546ed245d4076799c22b0d7aac2", func := "loop.example/g00924/laws.FnPlaces", spec := "fnPlaces", apart := false }
def FnPlacesSaid : Prop := fnPlacesRow.holds Try.pinned (OpenSpec.ofChange fnPlacesSpec)

/-- ITS FALSE NEIGHBOUR: 'it returns false'. Refute it at one input. -/
def fnPlacesWrong : ChangeSpec := { name := "fnPlaces", fn := fun _ => fun
  | [d] => { results := [.lit (.bool false)], args := [d] }
  | _ => none }
def FnPlacesWrongFalsely : Prop := fnPlacesRow.holds Try.pinned (OpenSpec.ofChange fnPlacesWrong)

/-- 'laws.FnRows': WHATEVER THE INPUT: true; the input reads as it did. -/
def fnRowsSpec : ChangeSpec := { name := "fnRows", fn := fun _ => fun
  | [d] => { results := [.lit (.bool true)], args := [d] }
  | _ => none }
def fnRowsRow : OpenClaim := { program := "ytgnopkemcgbedab", sum := "cfa30733300c059651f7f75aa0bd07342672f546ed245d4076799c22b0d7aac2", func := "loop.example/g00924/laws.FnRows", spec := "fnRows", unfollowed := true, recurses := true, apart := false }
def FnRowsSaid : Prop := fnRowsRow.holds Try.pinned (OpenSpec.ofChange fnRowsSpec)

/-- ITS FALSE NEIGHBOUR: 'it returns false'. Refute it at one input. -/
def fnRowsWrong : ChangeSpec := { name := "fnRows", fn := fun _ => fun
  | [d] => { results := [.lit (.bool false)], args := [d] }
  | _ => none }
def FnRowsWrongFalsely : Prop := fnRowsRow.holds Try.pinned (OpenSpec.ofChange fnRowsWrong)

/-- 'laws.FnExactMinutesOnWay': WHATEVER THE INPUT: true; the input reads as it did. -/
def fnExactMinutesOnWaySpec : ChangeSpec := { name := "fnExactMinutesOnWay", fn := fun _ => fun
  | [d1, d2, d3, d4] => { results := [.lit (.bool true)], args := [d1, d2, d3, d4] }
  | _ => none }
def fnExactMinutesOnWayRow : OpenClaim := { program := "ytgnopkemcgbedab", sum := "cfa30733300c059651f7f75aa0bd07342672f546ed245d4076799c22b0d7aac2", func := "loop.example/g00924/laws.FnExactMinutesOnWay", spec := "fnExactMinutesOnWay", apart := false }
def FnExactMinutesOnWaySaid : Prop := fnExactMinutesOnWayRow.holds Try.pinned (OpenSpec.ofChange fnExactMinutesOnWaySpec)

/-- ITS FALSE NEIGHBOUR: 'it returns false'. Refute it at one input. -/
def fnExactMinutesOnWayWrong : ChangeSpec := { name := "fnExactMinutesOnWay", fn := fun _ => fun
  | [d1, d2, d3, d4] => { results := [.lit (.bool false)], args := [d1, d2, d3, d4] }
  | _ => none }
def FnExactMinutesOnWayWrongFalsely : Prop := fnExactMinutesOnWayRow.holds Try.pinned (OpenSpec.ofChange fnExactMinutesOnWayWrong)

/-- 'laws.FnExactShortestRow': WHATEVER THE INPUT: true; the input reads as it did. -/
def fnExactShortestRowSpec : ChangeSpec := { name := "fnExactShortestRow", fn := fun _ => fun
  | [d] => { results := [.lit (.bool true)], args := [d] }
  | _ => none }
def fnExactShortestRowRow : OpenClaim := { program := "ytgnopkemcgbedab", sum := "cfa30733300c059651f7f75aa0bd07342672f546ed245d4076799c22b0d7aac2", func := "loop.example/g00924/laws.FnExactShortestRow", spec := "fnExactShortestRow", unfollowed := true, recurses := true, apart := false }
def FnExactShortestRowSaid : Prop := fnExactShortestRowRow.holds Try.pinned (OpenSpec.ofChange fnExactShortestRowSpec)

/-- ITS FALSE NEIGHBOUR: 'it returns false'. Refute it at one input. -/
def fnExactShortestRowWrong : ChangeSpec := { name := "fnExactShortestRow", fn := fun _ => fun
  | [d] => { results := [.lit (.bool false)], args := [d] }
  | _ => none }
def FnExactShortestRowWrongFalsely : Prop := fnExactShortestRowRow.holds Try.pinned (OpenSpec.ofChange fnExactShortestRowWrong)

/- THE SECOND FORM. 'bulk': how many values and letters a reading holds, each counted each time it is reached (what is shared counts as often as it is met; a slice's spare places count too). A statement '..UptoSaid' is the law's where the arguments, and the package variables that the reading takes, are together of bulk at most 1048576: NARROWER than '..Said'. Prove '..Said' where nothing that the law and all that it calls make is longer than what came in: it says more and counts as full. Else prove '..UptoSaid'. A law counts once. -/
mutual
def uptoBulk {H : Type} : DataW H → Nat
  | .lit (.string bytes) => bytes.length + 1
  | .lit _ => 1
  | .nil => 1
  | .ptr d => uptoBulk d + 1
  | .slice elems spare => uptoBulkAll elems + uptoBulkAll spare + 1
  | .agg parts => uptoBulkAll parts + 1
  | .iface _ d => uptoBulk d + 1
  | .map entries => uptoBulkEntries entries + 1
  | .held _ => 1
def uptoBulkAll {H : Type} : List (DataW H) → Nat
  | [] => 0
  | d :: r => uptoBulk d + uptoBulkAll r
def uptoBulkEntries {H : Type} : List (Lit × DataW H) → Nat
  | [] => 0
  | x :: r => uptoBulkEntry x + uptoBulkEntries r
def uptoBulkEntry {H : Type} : Lit × DataW H → Nat
  | (.string bytes, d) => bytes.length + uptoBulk d + 1
  | (_, d) => uptoBulk d + 1
 end
def uptoSmall : (H : Type) → List (DataW H) → Bool := fun _ ds => decide (uptoBulkAll ds ≤ 1048576)
def OpenSpec.upto (s : _root_.Go.ChangeSpec) : _root_.Go.OpenSpec := { _root_.Go.OpenSpec.ofChange s with cond := some uptoSmall }

/-- 'laws.FnPlaces', WHERE WHAT IT READS IS OF BULK AT MOST 1048576: true; the input reads as it did. -/
def fnPlacesUptoRow : OpenClaim := { program := "ytgnopkemcgbedab", sum := "cfa30733300c059651f7f75aa0bd07342672f546ed245d4076799c22b0d7aac2", func := "loop.example/g00924/laws.FnPlaces", spec := "fnPlaces", apart := false, narrowed := true }
def FnPlacesUptoSaid : Prop := fnPlacesUptoRow.holds Try.pinned (OpenSpec.upto fnPlacesSpec)

/-- 'laws.FnRows', WHERE WHAT IT READS IS OF BULK AT MOST 1048576: true; the input reads as it did. -/
def fnRowsUptoRow : OpenClaim := { program := "ytgnopkemcgbedab", sum := "cfa30733300c059651f7f75aa0bd07342672f546ed245d4076799c22b0d7aac2", func := "loop.example/g00924/laws.FnRows", spec := "fnRows", unfollowed := true, recurses := true, apart := false, narrowed := true }
def FnRowsUptoSaid : Prop := fnRowsUptoRow.holds Try.pinned (OpenSpec.upto fnRowsSpec)

/-- 'laws.FnExactMinutesOnWay', WHERE WHAT IT READS IS OF BULK AT MOST 1048576: true; the input reads as it did. -/
def fnExactMinutesOnWayUptoRow : OpenClaim := { program := "ytgnopkemcgbedab", sum := "cfa30733300c059651f7f75aa0bd07342672f546ed245d4076799c22b0d7aac2", func := "loop.example/g00924/laws.FnExactMinutesOnWay", spec := "fnExactMinutesOnWay", apart := false, narrowed := true }
def FnExactMinutesOnWayUptoSaid : Prop := fnExactMinutesOnWayUptoRow.holds Try.pinned (OpenSpec.upto fnExactMinutesOnWaySpec)

/-- 'laws.FnExactShortestRow', WHERE WHAT IT READS IS OF BULK AT MOST 1048576: true; the input reads as it did. -/
def fnExactShortestRowUptoRow : OpenClaim := { program := "ytgnopkemcgbedab", sum := "cfa30733300c059651f7f75aa0bd07342672f546ed245d4076799c22b0d7aac2", func := "loop.example/g00924/laws.FnExactShortestRow", spec := "fnExactShortestRow", unfollowed := true, recurses := true, apart := false, narrowed := true }
def FnExactShortestRowUptoSaid : Prop := fnExactShortestRowUptoRow.holds Try.pinned (OpenSpec.upto fnExactShortestRowSpec)

end Rows
end Go.Proofs.Ytgnopkemcgbedab
