/- Chapter 5: what the planned commands do: the mathematics. -/
import Derived.Test.YtmnagjjpncancaaLoM
namespace Go.Proofs.Ytmnagjjpncancaa
set_option linter.unusedVariables false
set_option linter.unusedSimpArgs false

theorem runL_append {s : TLockState} : ∀ {a : List Int} (b : List Int), (runL s a).2 = a.length →
    runL s (a ++ b) = ((runL (runL s a).1 b).1, a.length + (runL (runL s a).1 b).2) ∧ riseL s (a ++ b) = riseL s a + riseL (runL s a).1 b
  | [], b, _ => by simp [runL, riseL]
  | c :: cs, b, h => by
    cases hs : stepL s c with
    | none => simp [runL, hs] at h
    | some t =>
      simp only [runL, hs, List.length_cons, Nat.add_right_cancel_iff] at h
      obtain ⟨h1, h2⟩ := runL_append (s := t) b h
      simp only [List.cons_append, runL, riseL, hs, List.length_cons, h1, h2]
      exact ⟨by congr 1; omega, by omega⟩
/-- The Level after k minutes. -/
def levK (s : TLockState) (high : Bool) (k : Nat) : Int := if high = true then min (s.x2 + 50 * k) s.x1 else max (s.x2 - 50 * k) s.x0
theorem wait_run (high : Bool) : ∀ (k : Nat) (t : TLockState), goodL t = true → (k = 0 ∨ paddL t high = true) →
    runL t (List.replicate k 9) = ({ t with x2 := levK t high k }, k) ∧ riseL t (List.replicate k 9) = (if high = true then levK t high k - t.x2 else 0)
  | 0, t, hg, _ => by
    rw [goodL_iff] at hg
    obtain ⟨⟨h1, h2, h3, h4⟩, -⟩ := hg
    have : levK t high 0 = t.x2 := by unfold levK; split <;> omega
    rw [this]
    simp [runL, riseL]
  | k + 1, t, hg, hp => by
    have hp' : paddL t high = true := by simpa using hp
    have hw := waitL_step hg
    have hg2 := waitL_good hg
    have hlev : waitL t = levK t high 1 := by
      rw [goodL_iff] at hg
      obtain ⟨-, -, h6, -⟩ := hg
      unfold waitL levK
      unfold paddL at hp'
      cases high
      · replace hp' : t.x5 = true := by simpa using hp'
        rw [if_pos hp', if_neg (by simp)]
        simp
      · replace hp' : t.x6 = true := by simpa using hp'
        rw [if_neg (fun e => h6 ⟨e, hp'⟩), if_pos hp', if_pos rfl]
        simp
    have ih := wait_run high k { t with x2 := waitL t } hg2 (.inr hp')
    have h0 : 0 ≤ t.x0 ∧ t.x0 ≤ t.x2 ∧ t.x2 ≤ t.x1 := by
      rw [goodL_iff] at hg
      exact ⟨hg.1.1, hg.1.2.1, hg.1.2.2.1⟩
    have h2 : levK { t with x2 := waitL t } high k = levK t high (k + 1) := by
      rw [hlev]
      unfold levK
      cases high <;> simp <;> omega
    rw [h2] at ih
    obtain ⟨i1, i2⟩ := ih
    simp only [List.replicate_succ, runL, riseL, hw, i1, i2]
    refine ⟨trivial, ?_⟩
    rw [hlev]
    unfold levK
    cases high <;> simp <;> omega
/-- The state when the other side is closed and the paddle of this side is open, if minutes have to pass. -/
def preS (s : TLockState) (high : Bool) : TLockState :=
  if high = true then { s with x3 := false, x5 := false, x6 := s.x6 || decide (0 < minL s true) } else { s with x4 := false, x6 := false, x5 := s.x5 || decide (0 < minL s false) }
set_option maxHeartbeats 4000000 in
theorem pre_run {s : TLockState} (hg : goodL s = true) (high : Bool) (hc : gateL s high = false) :
    runL s (preL s high) = (preS s high, (preL s high).length) ∧ riseL s (preL s high) = 0 ∧ goodL (preS s high) = true := by
  unfold preL preS
  cases high
  · generalize minL s false = nf 
    obtain ⟨l, u, v, a, b, c, d⟩ := s
    have hg' := hg
    rw [goodL_iff] at hg'
    obtain ⟨⟨h1, h2, h3, h4⟩, h5, h6, h7, h8, h9, h10⟩ := hg'
    dsimp only at h1 h2 h3 h4
    replace hc : a = false := by simpa [gateL] using hc
    subst hc
    by_cases hn : 0 < nf
    all_goals
      cases b <;> cases c <;> cases d <;> simp at h5 h6 h7 h8 h9 h10
      all_goals simp [gateL, paddL, hn, runL, riseL, stepL, setL, goodL, h1, h2, h3, h4, h9, h10]
      all_goals try omega
  · generalize minL s true = nf 
    obtain ⟨l, u, v, a, b, c, d⟩ := s
    have hg' := hg
    rw [goodL_iff] at hg'
    obtain ⟨⟨h1, h2, h3, h4⟩, h5, h6, h7, h8, h9, h10⟩ := hg'
    dsimp only at h1 h2 h3 h4
    replace hc : b = false := by simpa [gateL] using hc
    subst hc
    by_cases hn : 0 < nf
    all_goals
      cases a <;> cases c <;> cases d <;> simp at h5 h6 h7 h8 h9 h10
      all_goals simp [gateL, paddL, hn, runL, riseL, stepL, setL, goodL, h1, h2, h3, h4, h9, h10]
      all_goals try omega
theorem gate_run {s : TLockState} (hg : goodL s = true) (high : Bool) (hh : headL s high ≤ 5) (h1 : gateL s high = false) (h2 : gateL s (!high) = false) (h3 : paddL s (!high) = false) :
    ∃ t, runL s [if high = true then 3 else 1] = (t, 1) ∧ riseL s [if high = true then 3 else 1] = 0 ∧ gateL t high = true ∧ t.x2 = s.x2 ∧ goodL t = true := by
  have key : ∃ t, stepL s (if high = true then 3 else 1) = some t ∧ gateL t high = true ∧ t.x2 = s.x2 ∧ goodL t = true := by
    obtain ⟨l, u, v, a, b, c, d⟩ := s
    have hg' := hg
    rw [goodL_iff] at hg'
    obtain ⟨⟨k1, k2, k3, k4⟩, k5, k6, k7, k8, k9, k10⟩ := hg'
    dsimp only at k1 k2 k3 k4
    cases high
    · simp [gateL, paddL, headL] at h1 h2 h3 hh
      subst h1 h2 h3
      have g2 : goodL ⟨l, u, v, true, false, c, false⟩ = true := by rw [goodL_iff]; simp; omega
      refine ⟨⟨l, u, v, true, false, c, false⟩, ?_, by simp [gateL], rfl, g2⟩
      simp [stepL, hg, setL, g2]
    · simp [gateL, paddL, headL] at h1 h2 h3 hh
      subst h1 h2 h3
      have g2 : goodL ⟨l, u, v, false, true, false, d⟩ = true := by rw [goodL_iff]; simp; omega
      refine ⟨⟨l, u, v, false, true, false, d⟩, ?_, by simp [gateL], rfl, g2⟩
      simp [stepL, hg, setL, g2]
  obtain ⟨t, e1, e2, e3, e4⟩ := key
  refine ⟨t, by simp [runL, e1], ?_, e2, e3, e4⟩
  simp [riseL, e1, e3]
end Go.Proofs.Ytmnagjjpncancaa
