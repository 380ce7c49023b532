/- Chapter 5: what the law on plans asks: the mathematics. -/
import Derived.Test.YtmnagjjpncancaaLoN
namespace Go.Proofs.Ytmnagjjpncancaa
set_option linter.unusedVariables false
set_option linter.unusedSimpArgs false

/-- How many minutes are waited. -/
def cnt9 : List Int → Nat
  | [] => 0
  | c :: cs => (if c = 9 then 1 else 0) + cnt9 cs
theorem cnt9_append : ∀ (a b : List Int), cnt9 (a ++ b) = cnt9 a + cnt9 b
  | [], b => by simp [cnt9]
  | c :: cs, b => by simp only [List.cons_append, cnt9, cnt9_append cs b]; omega
theorem cnt9_rep : ∀ N, cnt9 (List.replicate N 9) = N
  | 0 => rfl
  | N + 1 => by simp only [List.replicate_succ, cnt9, cnt9_rep N]; simp; omega
theorem cnt9_step (L : List Int) (k : Nat) (h : k < L.length) : cnt9 (L.take (k + 1)) = cnt9 (L.take k) + (if L[k] = 9 then 1 else 0) := by
  rw [List.take_succ_eq_append_getElem h, cnt9_append]
  simp [cnt9]
theorem cnt9_le : ∀ (L : List Int), cnt9 L ≤ L.length
  | [] => Nat.le_refl _
  | c :: cs => by
    have := cnt9_le cs
    simp only [cnt9, List.length_cons]
    split <;> omega
theorem cnt9_pre (s : TLockState) (high : Bool) : cnt9 (preL s high) = 0 := by
  unfold preL
  rw [cnt9_append, cnt9_append]
  have one : ∀ (P : Prop) [Decidable P] (z : Int), z ≠ 9 → cnt9 (if P then [z] else []) = 0 := by
    intro P _ z hz
    split
    · simp [cnt9, hz]
    · rfl
  rw [one _ _ (by cases high <;> simp), one _ _ (by cases high <;> simp), one _ _ (by cases high <;> simp)]
theorem plan_cnt {s : TLockState} {high : Bool} : (planL s high).length = 0 ∨ cnt9 (planL s high) = minL s high := by
  unfold planL
  split
  · exact .inl rfl
  · refine .inr ?_
    rw [cnt9_append, cnt9_append, cnt9_pre, cnt9_rep]
    cases high <;> simp [cnt9]
theorem plan_run {s : TLockState} (hg : goodL s = true) (high : Bool) :
    ∃ T, runL s (planL s high) = (T, (planL s high).length) ∧ goodL T = true ∧ gateL T high = true ∧ planL T high = [] ∧ riseL s (planL s high) = (if high = true then T.x2 - s.x2 else 0) := by
  cases hgate : gateL s high with
  | true =>
    have hp : planL s high = [] := by unfold planL; rw [if_pos hgate]
    refine ⟨s, by rw [hp]; rfl, hg, hgate, hp, ?_⟩
    rw [hp]
    cases high <;> simp [riseL]
  | false =>
    have hp : planL s high = preL s high ++ (List.replicate (minL s high) 9 ++ [if high = true then 3 else 1]) := by unfold planL; rw [hgate]; rfl
    obtain ⟨p1, p2, p3⟩ := pre_run hg high hgate
    have hpad : minL s high = 0 ∨ paddL (preS s high) high = true := by
      by_cases h0 : minL s high = 0
      · exact .inl h0
      · refine .inr ?_
        have h1 : 0 < minL s high := by omega
        cases high <;> simp [paddL, preS, h1]
    obtain ⟨w1, w2⟩ := wait_run high (minL s high) (preS s high) p3 hpad
    have hg2 := runL_good (List.replicate (minL s high) 9) (preS s high) p3
    rw [w1] at hg2
    have hm := minL_le hg high
    have hx : (preS s high).x0 = s.x0 ∧ (preS s high).x1 = s.x1 ∧ (preS s high).x2 = s.x2 := by cases high <;> simp [preS]
    have hlev := (goodL_iff s).1 hg
    have hh : headL { preS s high with x2 := levK (preS s high) high (minL s high) } high ≤ 5 := by
      obtain ⟨⟨l1, l2, l3, l4⟩, -⟩ := hlev
      obtain ⟨m1, m2⟩ := hm
      cases high
      · simp only [headL, levK, hx, Bool.false_eq_true, if_false] at m2 ⊢
        omega
      · simp only [headL, levK, hx, if_true] at m2 ⊢
        omega
    obtain ⟨T, g1, g2, g3, g4, g5⟩ := gate_run hg2 high hh (by cases high <;> simp [gateL, preS] at hgate ⊢ <;> exact hgate) (by cases high <;> simp [gateL, preS]) (by cases high <;> simp [paddL, preS])
    have a1 := runL_append (s := s) (a := preL s high) (List.replicate (minL s high) 9 ++ [if high = true then 3 else 1]) (by rw [p1])
    have a2 := runL_append (s := preS s high) (a := List.replicate (minL s high) 9) [if high = true then 3 else 1] (by rw [w1, List.length_replicate])
    rw [p1] at a1
    rw [w1] at a2
    dsimp only at a1 a2
    rw [a2.1, a2.2, g1, g2] at a1
    refine ⟨T, ?_, g5, g3, ?_, ?_⟩
    · rw [hp, a1.1]
      simp only [List.length_append, List.length_replicate, List.length_singleton]
    · unfold planL
      rw [if_pos g3]
    · rw [hp, a1.2, p2, w2, g4]
      rw [hx.2.2]
      cases high <;> simp
theorem plan_cnt_eq {s : TLockState} (hg : goodL s = true) (high : Bool) : cnt9 (planL s high) = minL s high := by
  cases hgate : gateL s high with
  | true =>
    have hp : planL s high = [] := by unfold planL; rw [if_pos hgate]
    have hlev := (goodL_iff s).1 hg
    obtain ⟨⟨l1, l2, l3, l4⟩, -, -, -, -, h9, h10⟩ := hlev
    have hm := (minL_le hg high).2
    have hh : headL s high ≤ 5 := by
      cases high
      · simp [gateL] at hgate
        simp [headL]
        exact h9 hgate
      · simp [gateL] at hgate
        simp [headL]
        exact h10 hgate
    rw [hp]
    show 0 = _
    omega
  | false =>
    rcases plan_cnt (s := s) (high := high) with h | h
    · unfold planL at h
      rw [hgate] at h
      simp at h
    · exact h
end Go.Proofs.Ytmnagjjpncancaa
