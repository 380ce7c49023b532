/- The given tests' question whether a text is too long. -/
import Derived.Test.YtdjoiodkmanacaaMem
namespace Go.Proofs.Ytdjoiodkmanacaa
set_option linter.unusedVariables false
open Go.RowKit Go.PlainAid

set_option maxHeartbeats 400000 in
theorem rBig_any (a : Option Addr) (n c : Nat) (w : World) (hm : n ≤ maxLen) : Calls Try.prog 14 #[.slice a n c] w fun e w' => e = .returned (.bool (decide ((65536 : Int) < (n : Int)))) ∧ w = w' := by
  unfold maxLen at hm
  by_cases h : (65536 : Int) < (n : Int)
  · rw [decide_eq_true h]
    go_enter Try.func14, Try.ntmps14
    go_wp2
    go_ret
    exact ⟨rfl, rfl⟩
  · rw [decide_eq_false h]
    go_enter Try.func14, Try.ntmps14
    go_wp2
    go_ret
    exact ⟨rfl, rfl⟩
end Go.Proofs.Ytdjoiodkmanacaa
