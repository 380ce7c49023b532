/- Comparisons of integers inside a quiet region whose guards lean on them: decided ahead. -/
import Derived.Test.YtgnopkemcgbedabDgL
namespace Go.Proofs.Ytgnopkemcgbedab
open Go.RowKit Go.PlainAid Go.Sort

theorem run_lss (x y : Int) (b : Bool) (h : decide (x < y) = b) : ∀ W, Sem.run Try.prog (binOp BinOp.lss 3 (.int .i64 x) (.int .i64 y)) W = .ok (.bool b) W := by
  intro W
  subst h
  simp [go_sem]
theorem run_geq (x y : Int) (b : Bool) (h : decide (y ≤ x) = b) : ∀ W, Sem.run Try.prog (binOp BinOp.geq 3 (.int .i64 x) (.int .i64 y)) W = .ok (.bool b) W := by
  intro W
  subst h
  simp [go_sem]
theorem run_gtr (x y : Int) (b : Bool) (h : decide (y < x) = b) : ∀ W, Sem.run Try.prog (binOp BinOp.gtr 3 (.int .i64 x) (.int .i64 y)) W = .ok (.bool b) W := by
  intro W
  subst h
  simp [go_sem]
theorem run_eql (x y : Int) (b : Bool) (h : (x == y) = b) : ∀ W, Sem.run Try.prog (binOp BinOp.eql 3 (.int .i64 x) (.int .i64 y)) W = .ok (.bool b) W := by
  intro W
  subst h
  simp [go_sem]
end Go.Proofs.Ytgnopkemcgbedab
