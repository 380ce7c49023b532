/- slices.Grow and slices.Concat over vessels. -/
import Derived.Test.YteeljlpbijmhlabInv
import Derived.Test.YteeljlpbijmhlabVesTo
import Derived.Lib.AppendZerosOnto
import Derived.Lib.AppendZeros
namespace Go.Proofs.Yteeljlpbijmhlab
open Go.RowKit Go.PlainAid

/-- A part of what is put together: where it lies, how long it is, its cells. -/
structure Part' where
  a : Addr
  n : Nat
  c : Nat
  xs : List Value
def Part'.val (s : Part') : Value := .slice (some s.a) s.n s.c
def total : List Part' → Nat
  | [] => 0
  | s :: t => s.n + total t
def allOf : List Part' → List Value
  | [] => []
  | s :: t => s.xs ++ allOf t
theorem total_append : ∀ (S T : List Part'), total (S ++ T) = total S + total T
  | [], T => by simp [total]
  | s :: S, T => by simp only [List.cons_append, total, total_append S T]; omega
theorem allOf_append : ∀ (S T : List Part'), allOf (S ++ T) = allOf S ++ allOf T
  | [], T => by simp [allOf]
  | s :: S, T => by simp only [List.cons_append, allOf, allOf_append S T, List.append_assoc]
theorem total_take (S : List Part') (k : Nat) (h : k < S.length) : total (S.take (k + 1)) = total (S.take k) + S[k].n := by
  rw [List.take_succ_eq_append_getElem h, total_append]
  simp [total]
theorem allOf_take (S : List Part') (k : Nat) (h : k < S.length) : allOf (S.take (k + 1)) = allOf (S.take k) ++ S[k].xs := by
  rw [List.take_succ_eq_append_getElem h, allOf_append]
  simp [allOf]
theorem total_le (S : List Part') (k : Nat) : total (S.take k) ≤ total S := by
  have := total_append (S.take k) (S.drop k)
  rw [List.take_append_drop] at this
  omega

end Go.Proofs.Yteeljlpbijmhlab
