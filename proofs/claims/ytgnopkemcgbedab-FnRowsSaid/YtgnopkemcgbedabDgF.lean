/- Chapter 7: passengers in the same chamber: the model and the program; a vessel in a block. -/
import Derived.Test.YtgnopkemcgbedabDgE
namespace Go.Proofs.Ytgnopkemcgbedab
open Go.RowKit Go.PlainAid Go.Sort
set_option linter.unusedVariables false
set_option linter.unusedSimpArgs false

/-- A vessel in a block. -/
def BoxC (W : World) (g : Nat) (x y z : Int) : Prop := W.heap[g]? = some (.cells #[.int .i64 x, .int .i64 y, .int .i64 z] 54 (0, 0))
section
variable {W : World} {g : Nat} {x y z : Int}
theorem BoxC.c0 (h : BoxC W g x y z) : W.cell? ⟨g, 0, none⟩ = some (.int .i64 x) := cell_of_row W g 0 _ _ _ h
theorem BoxC.c1 (h : BoxC W g x y z) : W.cell? ⟨g, 1, none⟩ = some (.int .i64 y) := cell_of_row W g 1 _ _ _ h
theorem BoxC.c2 (h : BoxC W g x y z) : W.cell? ⟨g, 2, none⟩ = some (.int .i64 z) := cell_of_row W g 2 _ _ _ h
theorem BoxC.fz (h : BoxC W g x y z) (k : Nat) : W.frozen? ⟨g, k, none⟩ = false := frozen_of_row W g k _ _ h
theorem BoxC.lt (h : BoxC W g x y z) : g < W.heap.size := (Array.getElem?_eq_some_iff.1 h).1
theorem BoxC.below {w' : World} {B : Nat} (h : BoxC W g x y z) (hb : Below B W w') (hg : g < B) : BoxC w' g x y z := (hb.block g hg).trans h
theorem BoxC.all {w' : World} (h : BoxC W g x y z) (hb : Below W.heap.size W w') : BoxC w' g x y z := h.below hb h.lt
theorem BoxC.kept {w' : World} {row : Option Nat} (h : BoxC W g x y z) (hg : W.grownBy w' row) (hne : some g ≠ row) : BoxC w' g x y z := (hg.block g h.lt hne).trans h
theorem BoxC.new (W : World) (x y z : Int) : BoxC (W.alloc (.cells #[.int .i64 x, .int .i64 y, .int .i64 z] 54)) W.heap.size x y z := heap_alloc_new W _
theorem BoxC.rangeAt (h : BoxC W g x y z) : W.rangeAt g 0 [.int .i64 x, .int .i64 y, .int .i64 z] := by
  intro j u hj
  match j, hj with
  | 0, hj => injection hj with hj; rw [← hj]; exact h.c0
  | 1, hj => injection hj with hj; rw [← hj]; exact h.c1
  | 2, hj => injection hj with hj; rw [← hj]; exact h.c2
theorem BoxC.set0 (h : BoxC W g x y z) (o : Int) : BoxC (W.setCell ⟨g, 0, none⟩ (.int .i64 o)) g o y z := by
  unfold BoxC at *
  simp [World.setCell, Array.getElem?_modify, h]
theorem BoxC.set1 (h : BoxC W g x y z) (o : Int) : BoxC (W.setCell ⟨g, 1, none⟩ (.int .i64 o)) g x o z := by
  unfold BoxC at *
  simp [World.setCell, Array.getElem?_modify, h]
theorem BoxC.set2 (h : BoxC W g x y z) (o : Int) : BoxC (W.setCell ⟨g, 2, none⟩ (.int .i64 o)) g x y o := by
  unfold BoxC at *
  simp [World.setCell, Array.getElem?_modify, h]
/-- All three cells written over. -/
abbrev sets3 (W : World) (g : Nat) (x y z : Int) : World := ((W.setCell ⟨g, 0, none⟩ (.int .i64 x)).setCell ⟨g, 1, none⟩ (.int .i64 y)).setCell ⟨g, 2, none⟩ (.int .i64 z)
theorem BoxC.sets (h : BoxC W g x y z) (x' y' z' : Int) : BoxC (sets3 W g x' y' z') g x' y' z' := ((h.set0 x').set1 y').set2 z'
theorem sets3_below {w W : World} {B : Nat} (h : Below B w W) {g : Nat} (hg : B ≤ g) (x y z : Int) : Below B w (sets3 W g x y z) := ((h.setCell (p := ⟨g, 0, none⟩) hg _).setCell (p := ⟨g, 1, none⟩) hg _).setCell (p := ⟨g, 2, none⟩) hg _
end
/-- A struct in a block as an answer. -/
theorem results_rowC {P : Program} {fn : Func} {p : Tmp} {ty : TypeId} (h : fn.results = #[.cell p ty]) (tmps : Array Value) (w : World) (g : Nat) (cs : List Value) (d : TypeDesc)
    (hp : tmps.getD p undef = .pointer (some ⟨g, 0, none⟩)) (hc : w.rangeAt g 0 cs) (hu : P.underlying ty = some d) (hd : d.isRow = true) (hi : (P.info? ty).map (·.size) = some cs.length) :
    (results fn tmps).run P w = .ok (.agg cs.toArray) w := by
  have hp' : tmps[p]?.getD undef = .pointer (some ⟨g, 0, none⟩) := by simpa using hp
  simp [results, h, hp', asAddr, run_loadVar_mid w g 0 ty cs d hc hu hd hi]

/-- What MayShareLock answers. -/
def MayA (vs : List TCargo) (p : Int) (R x : Bool) : Prop :=
  ((gCs vs = true ∧ 0 ≤ p ∧ p ≤ 1000) → x = true ∧ (R = true ↔ (p = 0 ∨ ∀ j, j < vs.length → ¬ MuchC (vs.getD j noCargo)))) ∧ (¬ (gCs vs = true ∧ 0 ≤ p ∧ p ≤ 1000) → R = false ∧ x = false)
theorem mayA_ex (vs : List TCargo) (p : Int) : ∃ R x, MayA vs p R x := by
  by_cases h : gCs vs = true ∧ 0 ≤ p ∧ p ≤ 1000
  · by_cases g : p = 0 ∨ ∀ j, j < vs.length → ¬ MuchC (vs.getD j noCargo)
    · exact ⟨true, true, fun _ => ⟨rfl, fun _ => g, fun _ => rfl⟩, fun k => absurd h k⟩
    · exact ⟨false, true, fun _ => ⟨rfl, (fun k => nomatch k), fun k => absurd k g⟩, fun k => absurd h k⟩
  · exact ⟨false, false, fun k => absurd k h, fun _ => ⟨rfl, rfl⟩⟩
end Go.Proofs.Ytgnopkemcgbedab
