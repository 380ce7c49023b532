/- The given tests' question whether a text is too long. -/
import Derived.Test.YtdleidlmjliapaaMem
namespace Go.Proofs.Ytdleidlmjliapaa
open Go.RowKit Go.PlainAid

set_option maxHeartbeats 400000 in
theorem bigL_no (a : Option Addr) (n c : Nat) (w : World) (h : n ≤ 65536) : Calls Try.prog 5 #[.slice a n c] w fun e w' => e = .returned (.bool false) ∧ w = w' := by
  have hd : decide ((65536 : Int) < (n : Int)) = false := by simp; omega
  go_enter Try.func5, Try.ntmps5
  go_wp2
  go_ret
  exact ⟨rfl, rfl⟩
set_option maxHeartbeats 400000 in
theorem bigL_yes (a : Option Addr) (n c : Nat) (w : World) (h : 65536 < n) (hm : n ≤ maxLen) : Calls Try.prog 5 #[.slice a n c] w fun e w' => e = .returned (.bool true) ∧ w = w' := by
  unfold maxLen at hm
  have hd : decide ((65536 : Int) < (n : Int)) = true := by simp; omega
  go_enter Try.func5, Try.ntmps5
  go_wp2
  go_ret
  exact ⟨rfl, rfl⟩
end Go.Proofs.Ytdleidlmjliapaa
