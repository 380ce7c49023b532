/- Chapter 5: one side of a lock in a block of its own; slices.Repeat of one number. -/
import Derived.Test.YtmnagjjpncancaaLoE
import Derived.Test.YtmnagjjpncancaaInts
import Derived.Test.YtmnagjjpncancaaInv
import Derived.Laws.CopyOwn
import Derived.Deep.RegionLaw
import Derived.Deep.LoopGhost
import Derived.Maps.AppendAt
namespace Go.Proofs.Ytmnagjjpncancaa
open Go.RowKit Go.PlainAid Go.Sort
set_option linter.unusedVariables false
set_option linter.unusedSimpArgs false

def BoxS (W : World) (g : Nat) (p : Int) (a b : Bool) (x y z t : Int) : Prop :=
  W.heap[g]? = some (.cells #[.int .i64 p, .bool a, .bool b, .int .i64 x, .int .i64 y, .int .i64 z, .int .i64 t] 58 (0, 0))
section
variable {W : World} {g : Nat} {p : Int} {a b : Bool} {x y z t : Int}
theorem BoxS.c0 (h : BoxS W g p a b x y z t) : W.cell? ⟨g, 0, none⟩ = some (.int .i64 p) := cell_of_row W g 0 _ _ _ h
theorem BoxS.c1 (h : BoxS W g p a b x y z t) : W.cell? ⟨g, 1, none⟩ = some (.bool a) := cell_of_row W g 1 _ _ _ h
theorem BoxS.c2 (h : BoxS W g p a b x y z t) : W.cell? ⟨g, 2, none⟩ = some (.bool b) := cell_of_row W g 2 _ _ _ h
theorem BoxS.c3 (h : BoxS W g p a b x y z t) : W.cell? ⟨g, 3, none⟩ = some (.int .i64 x) := cell_of_row W g 3 _ _ _ h
theorem BoxS.c4 (h : BoxS W g p a b x y z t) : W.cell? ⟨g, 4, none⟩ = some (.int .i64 y) := cell_of_row W g 4 _ _ _ h
theorem BoxS.c5 (h : BoxS W g p a b x y z t) : W.cell? ⟨g, 5, none⟩ = some (.int .i64 z) := cell_of_row W g 5 _ _ _ h
theorem BoxS.c6 (h : BoxS W g p a b x y z t) : W.cell? ⟨g, 6, none⟩ = some (.int .i64 t) := cell_of_row W g 6 _ _ _ h
theorem BoxS.fz (h : BoxS W g p a b x y z t) (k : Nat) : W.frozen? ⟨g, k, none⟩ = false := frozen_of_row W g k _ _ h
theorem BoxS.lt (h : BoxS W g p a b x y z t) : g < W.heap.size := (Array.getElem?_eq_some_iff.1 h).1
theorem BoxS.all {w' : World} (h : BoxS W g p a b x y z t) (hb : Below W.heap.size W w') : BoxS w' g p a b x y z t := (hb.block g h.lt).trans h
theorem BoxS.kept {w' : World} {row : Option Nat} (h : BoxS W g p a b x y z t) (hg : W.grownBy w' row) (hne : some g ≠ row) : BoxS w' g p a b x y z t := (hg.block g h.lt hne).trans h
theorem BoxS.new (W : World) (p : Int) (a b : Bool) (x y z t : Int) : BoxS (W.alloc (.cells #[.int .i64 p, .bool a, .bool b, .int .i64 x, .int .i64 y, .int .i64 z, .int .i64 t] 58)) W.heap.size p a b x y z t := heap_alloc_new W _
abbrev setsS (W : World) (g : Nat) (p : Int) (a b : Bool) (x y z t : Int) : World :=
  (((((((W.setCell ⟨g, 0, none⟩ (.int .i64 p)).setCell ⟨g, 1, none⟩ (.bool a)).setCell ⟨g, 2, none⟩ (.bool b)).setCell ⟨g, 3, none⟩ (.int .i64 x)).setCell ⟨g, 4, none⟩ (.int .i64 y)).setCell ⟨g, 5, none⟩ (.int .i64 z)).setCell ⟨g, 6, none⟩ (.int .i64 t))
theorem BoxS.sets (h : BoxS W g p a b x y z t) (p' : Int) (a' b' : Bool) (x' y' z' t' : Int) : BoxS (setsS W g p' a' b' x' y' z' t') g p' a' b' x' y' z' t' := by
  unfold BoxS at *
  simp [setsS, World.setCell, Array.getElem?_modify, h]
theorem setsS_below {w W : World} {B : Nat} (h : Below B w W) {g : Nat} (hg : B ≤ g) (p : Int) (a b : Bool) (x y z t : Int) : Below B w (setsS W g p a b x y z t) :=
  ((((((h.setCell (p := ⟨g, 0, none⟩) hg _).setCell (p := ⟨g, 1, none⟩) hg _).setCell (p := ⟨g, 2, none⟩) hg _).setCell (p := ⟨g, 3, none⟩) hg _).setCell (p := ⟨g, 4, none⟩) hg _).setCell (p := ⟨g, 5, none⟩) hg _).setCell (p := ⟨g, 6, none⟩) hg _
theorem grown_setsS (W : World) (g : Nat) (p : Int) (a b : Bool) (x y z t : Int) : W.grownBy (setsS W g p a b x y z t) (some g) :=
  have f := fun (w : World) (i : Nat) (u : Value) => (⟨rfl, rfl, rfl, by simp [World.setCell], fun k _ hk => Below.heap_setCell _ _ _ _ (fun e => hk (by rw [e]))⟩ : w.grownBy (w.setCell ⟨g, i, none⟩ u) (some g))
  ((((((f W 0 _).trans (f _ 1 _)).trans (f _ 2 _)).trans (f _ 3 _)).trans (f _ 4 _)).trans (f _ 5 _)).trans (f _ 6 _)
end

set_option maxHeartbeats 1000000 in
theorem mul64L_any (n : Nat) (h6 : n ≤ 40) (w : World) : Calls Try.prog 69 #[.int .u64 1, .int .u64 n] w fun e w' => e = .returned (.tuple #[.int .u64 0, .int .u64 n]) ∧ w = w' := by
  have hcases : n = 0 ∨ n = 1 ∨ n = 2 ∨ n = 3 ∨ n = 4 ∨ n = 5 ∨ n = 6 ∨ n = 7 ∨ n = 8 ∨ n = 9 ∨ n = 10 ∨ n = 11 ∨ n = 12 ∨ n = 13 ∨ n = 14 ∨ n = 15 ∨ n = 16 ∨ n = 17 ∨ n = 18 ∨ n = 19 ∨ n = 20 ∨ n = 21 ∨ n = 22 ∨ n = 23 ∨ n = 24 ∨ n = 25 ∨ n = 26 ∨ n = 27 ∨ n = 28 ∨ n = 29 ∨ n = 30 ∨ n = 31 ∨ n = 32 ∨ n = 33 ∨ n = 34 ∨ n = 35 ∨ n = 36 ∨ n = 37 ∨ n = 38 ∨ n = 39 ∨ n = 40 := by omega
  rcases hcases with rfl | rfl | rfl | rfl | rfl | rfl | rfl | rfl | rfl | rfl | rfl | rfl | rfl | rfl | rfl | rfl | rfl | rfl | rfl | rfl | rfl | rfl | rfl | rfl | rfl | rfl | rfl | rfl | rfl | rfl | rfl | rfl | rfl | rfl | rfl | rfl | rfl | rfl | rfl | rfl | rfl
  all_goals
    go_enter Try.func69, Try.ntmps69
    go_wp2
    refine bodyPost_ret (results_tmp2 rfl _ _ _) rfl ?_
    exact ⟨rfl, rfl⟩
end Go.Proofs.Ytmnagjjpncancaa
