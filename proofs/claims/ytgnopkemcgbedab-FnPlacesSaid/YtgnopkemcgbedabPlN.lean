/- Chapter 2: a waterway in a box, as FnPlaces keeps it. -/
import Derived.Test.YtgnopkemcgbedabPlE
import Derived.Test.YtgnopkemcgbedabPlM
namespace Go.Proofs.Ytgnopkemcgbedab
open Go.RowKit Go.PlainAid Go.Sort
set_option linter.unusedVariables false
set_option linter.unusedSimpArgs false

structure WB (W : World) (bx g1 nR c1 : Nat) (A2 : Option Addr) (nZ c2 : Nat) (R : List (Int × Int × Int)) (Z : List Int) : Prop where
  box : W.heap[bx]? = some (.cells #[.slice (some ⟨g1, 0, none⟩) nR c1, .slice A2 nZ c2] 27 (0, 0))
  way : IsWay W W.heap.size (some ⟨g1, 0, none⟩) nR A2 nZ R Z
section
variable {w W W' : World} {bx g1 nR c1 nZ c2 : Nat} {A2 : Option Addr} {R : List (Int × Int × Int)} {Z : List Int}
theorem WB.below (h : WB W bx g1 nR c1 A2 nZ c2 R Z) (hb : Below W.heap.size W W') : WB W' bx g1 nR c1 A2 nZ c2 R Z :=
  ⟨(hb.block _ (lt_of_heap h.box)).trans h.box, (h.way.below hb (Nat.le_refl _)).all⟩
theorem WB.cA (h : WB W bx g1 nR c1 A2 nZ c2 R Z) : W.cell? ⟨bx, 0, none⟩ = some (.slice (some ⟨g1, 0, none⟩) nR c1) := cell_of_row _ _ 0 _ _ _ h.box
theorem WB.cB (h : WB W bx g1 nR c1 A2 nZ c2 R Z) : W.cell? ⟨bx, 1, none⟩ = some (.slice A2 nZ c2) := cell_of_row _ _ 1 _ _ _ h.box
theorem WayD.wb (h : WayD w W g1 nR c1 A2 nZ c2 R Z) : WB (W.alloc (wayO (.slice (some ⟨g1, 0, none⟩) nR c1) (.slice A2 nZ c2))) W.heap.size g1 nR c1 A2 nZ c2 R Z :=
  ⟨heap_alloc_new W _, (h.way.below (below1x W _) (Nat.le_refl _)).all⟩
end
theorem wf_i64 {z : Int} (h : -1 ≤ z ∧ z ≤ 2000000) : (Lit.int .i64 z).wf = true := by
  have e1 : IntKind.i64.min = -9223372036854775808 := rfl
  have e2 : IntKind.i64.max = 9223372036854775807 := rfl
  simp only [Lit.wf, e1, e2]
  simp
  omega
theorem wrap_idem (a : Int) : IntKind.i64.wrap (IntKind.i64.wrap a) = IntKind.i64.wrap a := by
  rw [IntKind.wrap_i64, IntKind.wrap_i64]
  omega
theorem wrap_ex (a : Int) : ∃ k : Int, IntKind.i64.wrap a = a + 18446744073709551616 * k := by
  refine ⟨-((a + 9223372036854775808) / 18446744073709551616), ?_⟩
  rw [IntKind.wrap_i64]
  omega
theorem wrap_of {a b k : Int} (h : a = b + 18446744073709551616 * k) : IntKind.i64.wrap a = IntKind.i64.wrap b := by
  rw [IntKind.wrap_i64, IntKind.wrap_i64]
  omega
theorem wrap_mulL (a b : Int) : IntKind.i64.wrap (IntKind.i64.wrap a * b) = IntKind.i64.wrap (a * b) := by
  obtain ⟨k, hk⟩ := wrap_ex a
  refine wrap_of (k := k * b) ?_
  rw [hk]
  grind
theorem wrap_add2 (a b : Int) : IntKind.i64.wrap (IntKind.i64.wrap a + IntKind.i64.wrap b) = IntKind.i64.wrap (a + b) := by
  obtain ⟨k, hk⟩ := wrap_ex a
  obtain ⟨l, hl⟩ := wrap_ex b
  refine wrap_of (k := k + l) ?_
  rw [hk, hl]
  grind
/-- What the law compares, in numbers that may overflow. -/
theorem wrap_law (x y x1 y1 x2 y2 : Int) (h : (x1 * y2 + x2 * y1) * y = x * y1 * y2) :
    IntKind.i64.wrap (IntKind.i64.wrap (IntKind.i64.wrap (x1 * y2) + IntKind.i64.wrap (x2 * y1)) * y) = IntKind.i64.wrap (IntKind.i64.wrap (x * y1) * y2) := by
  rw [wrap_add2, wrap_mulL, wrap_mulL, h]
theorem wrap_64 (z : Int) : wrap64 z = IntKind.i64.wrap z := by
  rw [IntKind.wrap_i64]
  unfold wrap64
  try rfl
theorem wrap_eq (x y x1 y1 x2 y2 : Int) (h : (x1 * y2 + x2 * y1) * y = x * y1 * y2) :
    (wrap64 (wrap64 (wrap64 (x1 * y2) + wrap64 (x2 * y1)) * y) != wrap64 (wrap64 (x * y1) * y2)) = false := by
  simp only [wrap_64]
  rw [wrap_law x y x1 y1 x2 y2 h]
  simp
theorem retb_P {a b : Bool} (h : a = b) : Ending.returned (.bool a) = .returned (.bool b) := by rw [h]
end Go.Proofs.Ytgnopkemcgbedab
