/- Chapter 7: the most dangerous vessel: the model and the program. -/
import Derived.Test.YtgnopkemcgbedabDgO
import Derived.Test.YtgnopkemcgbedabInv
namespace Go.Proofs.Ytgnopkemcgbedab
open Go.RowKit Go.PlainAid Go.Sort
set_option linter.unusedVariables false
set_option linter.unusedSimpArgs false

theorem grown_setC (w : World) (g i : Nat) (u : Value) : w.grownBy (w.setCell ⟨g, i, none⟩ u) (some g) :=
  ⟨rfl, rfl, rfl, by simp [World.setCell], fun k _ hk => Below.heap_setCell _ _ _ _ (fun e => hk (by rw [e]))⟩
theorem moreD_or (i l q i2 l2 q2 : Int) : or3 (cmpI q2 q) (cmpI l2 l) (cmpI i i2) < 0 ↔ MoreD ⟨i, l, q⟩ ⟨i2, l2, q2⟩ := by
  unfold or3 MoreD cmpI
  repeat' split
  all_goals (simp only; omega)

end Go.Proofs.Ytgnopkemcgbedab
