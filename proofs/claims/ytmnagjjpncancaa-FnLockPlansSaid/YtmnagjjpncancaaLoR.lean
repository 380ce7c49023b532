/- Chapter 5: a lock's state in a block of its own. -/
import Derived.Test.YtmnagjjpncancaaLoA
namespace Go.Proofs.Ytmnagjjpncancaa
open Go.RowKit Go.PlainAid Go.Sort
set_option linter.unusedVariables false

def BoxL (W : World) (g : Nat) (l u v : Int) (a b c d : Bool) : Prop :=
  W.heap[g]? = some (.cells #[.int .i64 l, .int .i64 u, .int .i64 v, .bool a, .bool b, .bool c, .bool d] 23 (0, 0))
section
variable {W : World} {g : Nat} {l u v : Int} {a b c d : Bool}
theorem BoxL.c0 (h : BoxL W g l u v a b c d) : W.cell? ⟨g, 0, none⟩ = some (.int .i64 l) := cell_of_row W g 0 _ _ _ h
theorem BoxL.c1 (h : BoxL W g l u v a b c d) : W.cell? ⟨g, 1, none⟩ = some (.int .i64 u) := cell_of_row W g 1 _ _ _ h
theorem BoxL.c2 (h : BoxL W g l u v a b c d) : W.cell? ⟨g, 2, none⟩ = some (.int .i64 v) := cell_of_row W g 2 _ _ _ h
theorem BoxL.c3 (h : BoxL W g l u v a b c d) : W.cell? ⟨g, 3, none⟩ = some (.bool a) := cell_of_row W g 3 _ _ _ h
theorem BoxL.c4 (h : BoxL W g l u v a b c d) : W.cell? ⟨g, 4, none⟩ = some (.bool b) := cell_of_row W g 4 _ _ _ h
theorem BoxL.c5 (h : BoxL W g l u v a b c d) : W.cell? ⟨g, 5, none⟩ = some (.bool c) := cell_of_row W g 5 _ _ _ h
theorem BoxL.c6 (h : BoxL W g l u v a b c d) : W.cell? ⟨g, 6, none⟩ = some (.bool d) := cell_of_row W g 6 _ _ _ h
theorem BoxL.fz (h : BoxL W g l u v a b c d) (k : Nat) : W.frozen? ⟨g, k, none⟩ = false := frozen_of_row W g k _ _ h
theorem BoxL.lt (h : BoxL W g l u v a b c d) : g < W.heap.size := (Array.getElem?_eq_some_iff.1 h).1
theorem BoxL.below {w' : World} {B : Nat} (h : BoxL W g l u v a b c d) (hb : Below B W w') (hg : g < B) : BoxL w' g l u v a b c d := (hb.block g hg).trans h
theorem BoxL.all {w' : World} (h : BoxL W g l u v a b c d) (hb : Below W.heap.size W w') : BoxL w' g l u v a b c d := h.below hb h.lt
theorem BoxL.kept {w' : World} {row : Option Nat} (h : BoxL W g l u v a b c d) (hg : W.grownBy w' row) (hne : some g ≠ row) : BoxL w' g l u v a b c d := (hg.block g h.lt hne).trans h
theorem BoxL.new (W : World) (l u v : Int) (a b c d : Bool) : BoxL (W.alloc (.cells #[.int .i64 l, .int .i64 u, .int .i64 v, .bool a, .bool b, .bool c, .bool d] 23)) W.heap.size l u v a b c d := heap_alloc_new W _
theorem BoxL.rangeAt (h : BoxL W g l u v a b c d) : W.rangeAt g 0 [.int .i64 l, .int .i64 u, .int .i64 v, .bool a, .bool b, .bool c, .bool d] := by
  intro j x hj
  match j, hj with
  | 0, hj => injection hj with hj; rw [← hj]; exact h.c0
  | 1, hj => injection hj with hj; rw [← hj]; exact h.c1
  | 2, hj => injection hj with hj; rw [← hj]; exact h.c2
  | 3, hj => injection hj with hj; rw [← hj]; exact h.c3
  | 4, hj => injection hj with hj; rw [← hj]; exact h.c4
  | 5, hj => injection hj with hj; rw [← hj]; exact h.c5
  | 6, hj => injection hj with hj; rw [← hj]; exact h.c6
/-- All seven cells written over. -/
abbrev sets7 (W : World) (g : Nat) (l u v : Int) (a b c d : Bool) : World :=
  (((((((W.setCell ⟨g, 0, none⟩ (.int .i64 l)).setCell ⟨g, 1, none⟩ (.int .i64 u)).setCell ⟨g, 2, none⟩ (.int .i64 v)).setCell ⟨g, 3, none⟩ (.bool a)).setCell ⟨g, 4, none⟩ (.bool b)).setCell ⟨g, 5, none⟩ (.bool c)).setCell ⟨g, 6, none⟩ (.bool d))
theorem BoxL.sets (h : BoxL W g l u v a b c d) (l' u' v' : Int) (a' b' c' d' : Bool) : BoxL (sets7 W g l' u' v' a' b' c' d') g l' u' v' a' b' c' d' := by
  unfold BoxL at *
  simp [sets7, World.setCell, Array.getElem?_modify, h]
theorem sets7_below {w W : World} {B : Nat} (h : Below B w W) {g : Nat} (hg : B ≤ g) (l u v : Int) (a b c d : Bool) : Below B w (sets7 W g l u v a b c d) :=
  ((((((h.setCell (p := ⟨g, 0, none⟩) hg _).setCell (p := ⟨g, 1, none⟩) hg _).setCell (p := ⟨g, 2, none⟩) hg _).setCell (p := ⟨g, 3, none⟩) hg _).setCell (p := ⟨g, 4, none⟩) hg _).setCell (p := ⟨g, 5, none⟩) hg _).setCell (p := ⟨g, 6, none⟩) hg _
theorem BoxL.set3 (h : BoxL W g l u v a b c d) (o : Bool) : BoxL (W.setCell ⟨g, 3, none⟩ (.bool o)) g l u v o b c d := by
  unfold BoxL at *
  simp [World.setCell, Array.getElem?_modify, h]
theorem BoxL.set4 (h : BoxL W g l u v a b c d) (o : Bool) : BoxL (W.setCell ⟨g, 4, none⟩ (.bool o)) g l u v a o c d := by
  unfold BoxL at *
  simp [World.setCell, Array.getElem?_modify, h]
theorem BoxL.set5 (h : BoxL W g l u v a b c d) (o : Bool) : BoxL (W.setCell ⟨g, 5, none⟩ (.bool o)) g l u v a b o d := by
  unfold BoxL at *
  simp [World.setCell, Array.getElem?_modify, h]
theorem BoxL.set6 (h : BoxL W g l u v a b c d) (o : Bool) : BoxL (W.setCell ⟨g, 6, none⟩ (.bool o)) g l u v a b c o := by
  unfold BoxL at *
  simp [World.setCell, Array.getElem?_modify, h]
theorem BoxL.set2 (h : BoxL W g l u v a b c d) (z : Int) : BoxL (W.setCell ⟨g, 2, none⟩ (.int .i64 z)) g l u z a b c d := by
  unfold BoxL at *
  simp [World.setCell, Array.getElem?_modify, h]
theorem grown_setL (w : World) (g i : Nat) (u : Value) : w.grownBy (w.setCell ⟨g, i, none⟩ u) (some g) :=
  ⟨rfl, rfl, rfl, by simp [World.setCell], fun k _ hk => Below.heap_setCell _ _ _ _ (fun e => hk (by rw [e]))⟩
end
/-- A struct in a block and a value as an answer. -/
theorem results_row1 {P : Program} {fn : Func} {p t : Tmp} {ty : TypeId} (h : fn.results = #[.cell p ty, .tmp t]) (tmps : Array Value) (w : World) (g : Nat) (cs : List Value) (d : TypeDesc)
    (hp : tmps.getD p undef = .pointer (some ⟨g, 0, none⟩)) (hc : w.rangeAt g 0 cs) (hu : P.underlying ty = some d) (hd : d.isRow = true) (hi : (P.info? ty).map (·.size) = some cs.length) :
    (results fn tmps).run P w = .ok (.tuple #[.agg cs.toArray, tmps.getD t undef]) w := by
  have hp' : tmps[p]?.getD undef = .pointer (some ⟨g, 0, none⟩) := by simpa using hp
  simp [results, h, hp', asAddr, run_loadVar_mid w g 0 ty cs d hc hu hd hi]
theorem results_row2 {P : Program} {fn : Func} {p t q : Tmp} {ty : TypeId} (h : fn.results = #[.cell p ty, .tmp t, .tmp q]) (tmps : Array Value) (w : World) (g : Nat) (cs : List Value) (d : TypeDesc)
    (hp : tmps.getD p undef = .pointer (some ⟨g, 0, none⟩)) (hc : w.rangeAt g 0 cs) (hu : P.underlying ty = some d) (hd : d.isRow = true) (hi : (P.info? ty).map (·.size) = some cs.length) :
    (results fn tmps).run P w = .ok (.tuple #[.agg cs.toArray, tmps.getD t undef, tmps.getD q undef]) w := by
  have hp' : tmps[p]?.getD undef = .pointer (some ⟨g, 0, none⟩) := by simpa using hp
  simp [results, h, hp', asAddr, run_loadVar_mid w g 0 ty cs d hc hu hd hi]
theorem results_row0 {P : Program} {fn : Func} {p : Tmp} {ty : TypeId} (h : fn.results = #[.cell p ty]) (tmps : Array Value) (w : World) (g : Nat) (cs : List Value) (d : TypeDesc)
    (hp : tmps.getD p undef = .pointer (some ⟨g, 0, none⟩)) (hc : w.rangeAt g 0 cs) (hu : P.underlying ty = some d) (hd : d.isRow = true) (hi : (P.info? ty).map (·.size) = some cs.length) :
    (results fn tmps).run P w = .ok (.agg cs.toArray) w := by
  have hp' : tmps[p]?.getD undef = .pointer (some ⟨g, 0, none⟩) := by simpa using hp
  simp [results, h, hp', asAddr, run_loadVar_mid w g 0 ty cs d hc hu hd hi]
end Go.Proofs.Ytmnagjjpncancaa
