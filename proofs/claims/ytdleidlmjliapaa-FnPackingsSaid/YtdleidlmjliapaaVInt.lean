/- The given tests' equality of two slices of integers; the room of a row. -/
import Derived.Test.YtdleidlmjliapaaIntS
namespace Go.Proofs.Ytdleidlmjliapaa
open Go.RowKit Go.PlainAid Go.Sort

theorem own_cap {w : World} {base : Nat} {e : TypeId} {g n c : Nat} {xs : List Value} {z : Nat} (h : w.ownsRow base e z (.slice (some ⟨g, 0, none⟩) n c) n xs) : n ≤ c ∧ c ≤ maxLen := by
  rcases h.2 with ⟨e1, -⟩ | ⟨g', cap, cur, e1, -, -, hl⟩
  · cases e1
  · injection e1 with e1 e2 e3
    subst e3
    exact ⟨hl.1, hl.2.1⟩
set_option maxHeartbeats 400000 in
theorem vInt_same (A1 A2 : Option Addr) (n c1 c2 B1 B2 : Nat) (zs : List Int) (w : World) (hn : zs.length = n) (hm : n ≤ maxLen)
    (h1 : Has w B1 A1 (zs.map (.int .i64))) (h2 : Has w B2 A2 (zs.map (.int .i64))) :
    Calls Try.prog 24 #[.slice A1 n c1, .slice A2 n c2] w fun e w' => e = .returned (.bool true) ∧ Drawn w w' := by
  unfold maxLen at hm
  go_enter Try.func24, Try.ntmps24
  go_wp2
  go_loopw [5] (fun i wr => ∃ k : Nat, k ≤ n ∧ i = .int .i64 k ∧ Drawn w wr) (fun i _ => n - (intOf i).toNat)
  case atStart => exact ⟨0, Nat.zero_le _, rfl, Drawn.refl _⟩
  case round =>
    obtain ⟨k, hk, rfl, hD⟩ := hrel
    by_cases hlt : k < n
    · obtain ⟨a1, rfl, _, e1⟩ := (hD.has h1).intAt (k := k) (by omega)
      obtain ⟨a2, rfl, _, e2⟩ := (hD.has h2).intAt (k := k) (by omega)
      have hne : (zs[k] != zs[k]) = false := by simp
      generalize zs[k] = s at e1 e2 hne
      clear h1 h2 hn
      have hk0 : (0 : Int) ≤ (k : Int) := by omega
      have hk1 : (k : Int) < (n : Int) := by omega
      go_wp2
      go_quiet (fail)
      go_wp2
      go_roundw
      case rel => exact ⟨k + 1, by omega, by go_num, hD.step _⟩
      case measure => simp [intOf]; omega
    · obtain rfl : k = n := by omega
      clear h1 h2 hn
      go_wp2
      go_ret
      exact ⟨rfl, hD⟩
end Go.Proofs.Ytdleidlmjliapaa
