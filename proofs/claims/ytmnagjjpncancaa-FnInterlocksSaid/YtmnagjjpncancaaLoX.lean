/- Chapter 5: what the laws on interlocks ask beside the answers: the mathematics. -/
import Derived.Test.YtmnagjjpncancaaLoN
namespace Go.Proofs.Ytmnagjjpncancaa
set_option linter.unusedVariables false
set_option linter.unusedSimpArgs false

theorem setL_cmd {s T : TLockState} {k : Int} (h : setL s k = some T) : 1 ≤ k ∧ k ≤ 9 := by
  by_cases h1 : 1 ≤ k ∧ k ≤ 9
  · exact h1
  · unfold setL at h
    rw [if_neg (by omega), if_neg (by omega), if_neg (by omega), if_neg (by omega), if_neg (by omega), if_neg (by omega), if_neg (by omega), if_neg (by omega), if_neg (by omega)] at h
    cases h
theorem step_cmd {s T : TLockState} {k : Int} (h : stepL s k = some T) : 1 ≤ k ∧ k ≤ 9 := setL_cmd (stepL_good h).2.2
/-- The opposite command. -/
def oppL (k : Int) : Int := if k % 2 = 0 then k - 1 else k + 1
theorem set_back {s T : TLockState} {k : Int} (h : setL s k = some T) (hk : 1 ≤ k ∧ k ≤ 8) : setL T (oppL k) = some s := by
  obtain ⟨l, u, v, a, b, c, d⟩ := s
  have hc : k = 1 ∨ k = 2 ∨ k = 3 ∨ k = 4 ∨ k = 5 ∨ k = 6 ∨ k = 7 ∨ k = 8 := by omega
  rcases hc with rfl | rfl | rfl | rfl | rfl | rfl | rfl | rfl
  · cases a <;> simp [setL] at h; subst h; simp [setL, oppL]
  · cases a <;> simp [setL] at h; subst h; simp [setL, oppL]
  · cases b <;> simp [setL] at h; subst h; simp [setL, oppL]
  · cases b <;> simp [setL] at h; subst h; simp [setL, oppL]
  · cases c <;> simp [setL] at h; subst h; simp [setL, oppL]
  · cases c <;> simp [setL] at h; subst h; simp [setL, oppL]
  · cases d <;> simp [setL] at h; subst h; simp [setL, oppL]
  · cases d <;> simp [setL] at h; subst h; simp [setL, oppL]
theorem step_back {s T : TLockState} {k : Int} (h : stepL s k = some T) (hk : 1 ≤ k ∧ k ≤ 8) : stepL T (oppL k) = some s := by
  obtain ⟨h1, h2, h3⟩ := stepL_good h
  unfold stepL
  rw [if_pos h2, set_back h3 hk]
  simp only [Option.bind]
  rw [if_pos h1]
theorem runL_stops : ∀ (L : List Int) (s : TLockState), (runL s L).2 < L.length → stepL (runL s L).1 (L.getD (runL s L).2 0) = none
  | [], s, h => by simp [runL] at h
  | c :: cs, s, h => by
    cases hs : stepL s c with
    | none => simp [runL, hs]
    | some t =>
      simp only [runL, hs, List.length_cons] at h ⊢
      have := runL_stops cs t (by omega)
      simpa using this
end Go.Proofs.Ytmnagjjpncancaa
