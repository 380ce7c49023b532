/- Chapter 5: a lock, its commands, its plans: the mathematics. -/
import Derived.Test.YtmnagjjpncancaaSLockState
namespace Go.Proofs.Ytmnagjjpncancaa
set_option linter.unusedVariables false
set_option linter.unusedSimpArgs false

/-- A lock that is valid and safe. -/
def goodL (s : TLockState) : Bool :=
  decide (0 ≤ s.x0 ∧ s.x0 ≤ s.x2 ∧ s.x2 ≤ s.x1 ∧ s.x1 ≤ 2000) && (!(s.x3 && s.x4) && (!(s.x5 && s.x6) && (!(s.x3 && s.x6) && (!(s.x4 && s.x5) &&
    (!(s.x3 && decide (5 < s.x2 - s.x0)) && !(s.x4 && decide (5 < s.x1 - s.x2)))))))
theorem goodL_iff (s : TLockState) : goodL s = true ↔ (0 ≤ s.x0 ∧ s.x0 ≤ s.x2 ∧ s.x2 ≤ s.x1 ∧ s.x1 ≤ 2000) ∧ ¬ (s.x3 = true ∧ s.x4 = true) ∧ ¬ (s.x5 = true ∧ s.x6 = true) ∧ ¬ (s.x3 = true ∧ s.x6 = true) ∧ ¬ (s.x4 = true ∧ s.x5 = true) ∧ (s.x3 = true → s.x2 - s.x0 ≤ 5) ∧ (s.x4 = true → s.x1 - s.x2 ≤ 5) := by
  unfold goodL
  obtain ⟨l, u, v, a, b, c, d⟩ := s
  dsimp only
  cases a <;> cases b <;> cases c <;> cases d <;> simp
/-- The Level when a minute has passed. -/
def waitL (s : TLockState) : Int := if s.x5 = true then max (s.x2 - 50) s.x0 else if s.x6 = true then min (s.x2 + 50) s.x1 else s.x2
/-- The state after a command, safe or not. -/
def setL (s : TLockState) (c : Int) : Option TLockState :=
  if c = 1 then (if s.x3 = true then none else some { s with x3 := true })
  else if c = 2 then (if s.x3 = true then some { s with x3 := false } else none)
  else if c = 3 then (if s.x4 = true then none else some { s with x4 := true })
  else if c = 4 then (if s.x4 = true then some { s with x4 := false } else none)
  else if c = 5 then (if s.x5 = true then none else some { s with x5 := true })
  else if c = 6 then (if s.x5 = true then some { s with x5 := false } else none)
  else if c = 7 then (if s.x6 = true then none else some { s with x6 := true })
  else if c = 8 then (if s.x6 = true then some { s with x6 := false } else none)
  else if c = 9 then some { s with x2 := waitL s }
  else none
def stepL (s : TLockState) (c : Int) : Option TLockState := if goodL s = true then (setL s c).bind (fun t => if goodL t = true then some t else none) else none
theorem stepL_good {s t : TLockState} {c : Int} (h : stepL s c = some t) : goodL s = true ∧ goodL t = true ∧ setL s c = some t := by
  unfold stepL at h
  split at h
  · next hg =>
    cases hs : setL s c with
    | none => rw [hs] at h; simp at h
    | some u =>
      rw [hs] at h
      simp only [Option.bind] at h
      split at h
      · next hu => injection h with h; subst h; exact ⟨hg, hu, rfl⟩
      · cases h
  · cases h
theorem waitL_good {s : TLockState} (h : goodL s = true) : goodL { s with x2 := waitL s } = true := by
  rw [goodL_iff] at h ⊢
  obtain ⟨l, u, v, a, b, c, d⟩ := s
  simp only [waitL] at h ⊢
  obtain ⟨⟨h1, h2, h3, h4⟩, h5, h6, h7, h8, h9, h10⟩ := h
  cases a <;> cases b <;> cases c <;> cases d <;> simp at h5 h6 h7 h8 h9 h10 ⊢ <;> omega
theorem waitL_step {s : TLockState} (h : goodL s = true) : stepL s 9 = some { s with x2 := waitL s } := by
  unfold stepL
  rw [if_pos h, show setL s 9 = some { s with x2 := waitL s } by simp [setL]]
  simp only [Option.bind]
  rw [if_pos (waitL_good h)]
/-- What is answered of a state that there may be. -/
def outL (o : Option TLockState) : TLockState := o.getD noLockState

/-- The state after the commands up to the first that fails, and how many were made. -/
def runL : TLockState → List Int → TLockState × Nat
  | s, [] => (s, 0)
  | s, c :: cs => match stepL s c with
    | none => (s, 0)
    | some t => ((runL t cs).1, (runL t cs).2 + 1)
/-- By how much the Level rises. -/
def riseL : TLockState → List Int → Int
  | _, [] => 0
  | s, c :: cs => match stepL s c with
    | none => 0
    | some t => max 0 (t.x2 - s.x2) + riseL t cs
theorem runL_le : ∀ (cs : List Int) (s : TLockState), (runL s cs).2 ≤ cs.length
  | [], s => Nat.le_refl _
  | c :: cs, s => by
    unfold runL
    split
    · exact Nat.zero_le _
    · have := runL_le cs ‹_›
      simp only [List.length_cons]; omega
theorem runL_good : ∀ (cs : List Int) (s : TLockState), goodL s = true → goodL (runL s cs).1 = true
  | [], s, h => h
  | c :: cs, s, h => by
    unfold runL
    split
    · exact h
    · next t ht => exact runL_good cs t (stepL_good ht).2.1
theorem runL_next {s t : TLockState} {L : List Int} {k : Nat} (hk : k < L.length) (h : stepL s (L.getD k 0) = some t) :
    runL s (L.drop k) = ((runL t (L.drop (k + 1))).1, (runL t (L.drop (k + 1))).2 + 1) ∧ riseL s (L.drop k) = max 0 (t.x2 - s.x2) + riseL t (L.drop (k + 1)) := by
  rw [List.drop_eq_getElem_cons hk]
  rw [List.getD_eq_getElem?_getD, List.getElem?_eq_getElem hk] at h
  simp only [Option.getD_some] at h
  simp only [runL, riseL, h, and_self]
theorem runL_stop {s : TLockState} {L : List Int} {k : Nat} (hk : k < L.length) (h : stepL s (L.getD k 0) = none) : runL s (L.drop k) = (s, 0) ∧ riseL s (L.drop k) = 0 := by
  rw [List.drop_eq_getElem_cons hk]
  rw [List.getD_eq_getElem?_getD, List.getElem?_eq_getElem hk] at h
  simp only [Option.getD_some] at h
  simp only [runL, riseL, h, and_self]

/-- The difference of levels at a gate. -/
def headL (s : TLockState) (high : Bool) : Int := if high = true then s.x1 - s.x2 else s.x2 - s.x0
theorem headL_in {s : TLockState} (h : goodL s = true) (high : Bool) : 0 ≤ headL s high ∧ headL s high ≤ 2000 := by
  rw [goodL_iff] at h
  obtain ⟨⟨h1, h2, h3, h4⟩, -⟩ := h
  unfold headL
  cases high <;> simp <;> omega
def minL (s : TLockState) (high : Bool) : Nat := ((max 0 (headL s high - 5) + 50 - 1) / 50).toNat
theorem minL_le {s : TLockState} (h : goodL s = true) (high : Bool) : minL s high ≤ 40 ∧ ((minL s high : Nat) : Int) = (max 0 (headL s high - 5) + 50 - 1) / 50 := by
  have := headL_in h high
  unfold minL
  generalize headL s high = x at this
  omega
def gateL (s : TLockState) (high : Bool) : Bool := if high = true then s.x4 else s.x3
def paddL (s : TLockState) (high : Bool) : Bool := if high = true then s.x6 else s.x5
/-- The commands that open the gate of a side. -/
def preL (s : TLockState) (high : Bool) : List Int :=
  (if gateL s (!high) = true then [if high = true then 2 else 4] else []) ++ ((if paddL s (!high) = true then [if high = true then 6 else 8] else []) ++
    (if 0 < minL s high ∧ paddL s high = false then [if high = true then 7 else 5] else []))
def planL (s : TLockState) (high : Bool) : List Int :=
  if gateL s high = true then [] else preL s high ++ (List.replicate (minL s high) 9 ++ [if high = true then 3 else 1])
theorem planL_len {s : TLockState} (h : goodL s = true) (high : Bool) : (planL s high).length ≤ 44 := by
  have := (minL_le h high).1
  unfold planL preL
  split
  · simp
  · simp only [List.length_append, List.length_replicate, List.length_singleton]
    repeat' split
    all_goals simp only [List.length_nil, List.length_singleton]
    all_goals omega
end Go.Proofs.Ytmnagjjpncancaa
