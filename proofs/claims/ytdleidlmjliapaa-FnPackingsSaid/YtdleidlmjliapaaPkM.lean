/- Chapter 4: the mathematics of FnPackings: the packing that is found is the smallest one. -/
import Derived.Test.YtdleidlmjliapaaChM
namespace Go.Proofs.Ytdleidlmjliapaa
set_option linter.unusedVariables false

theorem fstS_least {α : Type} {f : Nat → Option α} : ∀ {n : Nat} {x : α}, fstS f n = some x → ∃ k, k < n ∧ f k = some x ∧ ∀ j, j < k → f j = none
  | 0, x, h => absurd h (by simp [fstS])
  | n + 1, x, h => by
    have h' : (match fstS f n with | some x => some x | none => f n) = some x := h
    cases e : fstS f n with
    | some y =>
      rw [e] at h'
      obtain ⟨k, a, b, c⟩ := fstS_least (e.trans h')
      exact ⟨k, by omega, b, c⟩
    | none =>
      rw [e] at h'
      refine ⟨n, by omega, h', fun j hj => ?_⟩
      cases e2 : f j with
      | none => rfl
      | some y =>
        have := fstS_isSome (f := f) (k := j) (by rw [e2]; rfl) n hj
        rw [e] at this; cases this
/-- A spot that comes before another one. -/
def befS (a b : TSpot) : Prop := a.x0 < b.x0 ∨ a.x0 = b.x0 ∧ a.x1 < b.x1
/-- In order of the first place where they differ. -/
def lexS : List TSpot → List TSpot → Prop
  | [], [] => True
  | a :: l, b :: m => befS a b ∨ (a = b ∧ lexS l m)
  | _, _ => False
theorem search_least {c : TChamber} : ∀ (t : List THull) (done e r : List (THull × TSpot)), e.map Prod.fst = t.reverse → lies c (e ++ done) → search c t done = some r →
    ∃ e', r = e' ++ done ∧ e'.map Prod.fst = t.reverse ∧ lexS (e'.map Prod.snd).reverse (e.map Prod.snd).reverse
  | [], done, e, r, hm, hl, hr => by
    injection hr with hr
    subst hr
    have he : e = [] := by simpa using hm
    subst he
    exact ⟨[], rfl, rfl, trivial⟩
  | h :: t, done, e, r, hm, hl, hr => by
    rw [List.reverse_cons] at hm
    obtain ⟨e', x, rfl, h1, h2⟩ : ∃ e' x, e = e' ++ [x] ∧ e'.map Prod.fst = t.reverse ∧ x.1 = h := by
      rcases List.eq_nil_or_concat e with rfl | ⟨e', x, rfl⟩
      · simp at hm
      · rw [List.concat_eq_append, List.map_append] at hm
        have := List.append_inj' hm rfl
        refine ⟨e', x, by simp, this.1, ?_⟩
        simpa using this.2
    obtain ⟨h', s⟩ := x
    dsimp only at h2
    subst h2
    rw [List.append_assoc] at hl
    have hrr := lies_right hl
    obtain ⟨⟨hin, hfree⟩, hdone⟩ := hrr
    obtain ⟨⟨a0, a1⟩, b0, b1⟩ := hin
    dsimp only at a0 a1 b0 b1
    obtain ⟨i, hi⟩ : ∃ i : Nat, s.x0 = i := ⟨s.x0.toNat, by omega⟩
    obtain ⟨j, hj⟩ : ∃ j : Nat, s.x1 = j := ⟨s.x1.toNat, by omega⟩
    have hs : s = sp i j := by cases s; simp only at hi hj; subst hi hj; rfl
    have ht : (tryAt c h' t done i j).isSome = true := by
      unfold tryAt
      have hf : freeB h' s done = true := (freeB_iff _ _ _).2 hfree
      rw [← hs, if_pos hf]
      exact search_complete t _ e' h1 hl
    have k1 : j < nSide c h' := by unfold nSide; omega
    have k2 : i < nAt c h' := by unfold nAt; omega
    have hrow : (tryRow c h' t done i).isSome = true := fstS_isSome (f := tryAt c h' t done i) (k := j) ht _ k1
    rw [search_cons] at hr
    obtain ⟨i2, hi2, hr2, hn2⟩ := fstS_least hr
    obtain ⟨j2, hj2, hr3, hn3⟩ := fstS_least (f := tryAt c h' t done i2) hr2
    have hle : i2 ≤ i := by
      rcases Nat.lt_or_ge i i2 with g | g
      · rw [hn2 i g] at hrow; cases hrow
      · exact g
    unfold tryAt at hr3
    split at hr3
    case isFalse => cases hr3
    case isTrue hf2 =>
      have hins : inside c h' (sp i2 j2) := by unfold nAt at hi2; unfold nSide at hj2; unfold inside sp; dsimp only; omega
      obtain ⟨-, e2, he2, hm2⟩ := search_some t _ r (show lies c ((h', sp i2 j2) :: done) from ⟨⟨hins, (freeB_iff _ _ _).1 hf2⟩, hdone⟩) hr3
      have form : ∀ e3 : List (THull × TSpot), ((e3 ++ [(h', sp i2 j2)]).map Prod.snd).reverse = sp i2 j2 :: (e3.map Prod.snd).reverse := fun e3 => by simp
      have form2 : ((e' ++ [(h', s)]).map Prod.snd).reverse = s :: (e'.map Prod.snd).reverse := by simp
      by_cases hlt : befS (sp i2 j2) s
      · refine ⟨e2 ++ [(h', sp i2 j2)], by simp [he2], by simp [hm2], ?_⟩
        rw [form, form2]
        exact .inl hlt
      · have hi3 : i2 = i := by
          unfold befS sp at hlt
          dsimp only at hlt
          omega
        subst hi3
        have hj3 : j2 = j := by
          have h5 : j2 ≤ j := by
            rcases Nat.lt_or_ge j j2 with g | g
            · rw [hn3 j g] at ht; cases ht
            · exact g
          unfold befS sp at hlt
          dsimp only at hlt
          omega
        subst hj3
        obtain ⟨e4, he4, hm4, hx4⟩ := search_least t ((h', sp i2 j2) :: done) e' r h1 (by rw [← hs]; exact hl) hr3
        refine ⟨e4 ++ [(h', sp i2 j2)], by simp [he4], by simp [hm4], ?_⟩
        rw [form, form2]
        exact .inr ⟨hs.symm, hx4⟩
theorem befS_irr (a : TSpot) : ¬ befS a a := by unfold befS; omega
/-- As long as they are the same, the next ones are the same or the first comes before. -/
theorem lexS_at : ∀ {l m : List TSpot}, lexS l m → ∀ k, k < m.length → (∀ j, j < k → l.getD j noSpot = m.getD j noSpot) → l.getD k noSpot = m.getD k noSpot ∨ befS (l.getD k noSpot) (m.getD k noSpot)
  | [], [], _, k, hk, _ => absurd hk (by simp)
  | a :: l, b :: m, h, 0, _, _ => by
    rcases h with h | ⟨rfl, -⟩
    · exact .inr h
    · exact .inl rfl
  | a :: l, b :: m, h, k + 1, hk, he => by
    have h0 : a = b := he 0 (by omega)
    subst h0
    rcases h with h | ⟨-, h⟩
    · exact absurd h (befS_irr a)
    · exact lexS_at h k (by simpa using hk) (fun j hj => he (j + 1) (by omega))
  | [], _ :: _, h, _, _, _ => h.elim
  | _ :: _, [], h, _, _, _ => h.elim
end Go.Proofs.Ytdleidlmjliapaa
