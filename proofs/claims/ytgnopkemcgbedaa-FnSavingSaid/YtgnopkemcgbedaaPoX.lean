/- Chapter 11: the mathematics of the best order. -/
import Derived.Test.YtgnopkemcgbedaaPoM
import Derived.Test.YtgnopkemcgbedaaOrdP
namespace Go.Proofs.Ytgnopkemcgbedaa
set_option linter.unusedVariables false

/-- The better of two: the first one, unless the second has more. -/
def stepG {α : Type} (acc o : α × Int) : α × Int := if acc.2 < o.2 then o else acc
theorem stepG_assoc {α : Type} (a b c : α × Int) : stepG (stepG a b) c = stepG a (stepG b c) := by
  unfold stepG
  by_cases h1 : a.2 < b.2
  · rw [if_pos h1]
    by_cases h2 : b.2 < c.2
    · rw [if_pos h2, if_pos (show a.2 < c.2 by omega)]
    · rw [if_neg h2, if_pos h1]
  · rw [if_neg h1]
    by_cases h2 : b.2 < c.2
    · rw [if_pos h2]
    · rw [if_neg h2, if_neg h1, if_neg (show ¬ a.2 < c.2 by omega)]
theorem foldG_one {α : Type} : ∀ (l : List (α × Int)) (a b : α × Int), l.foldl stepG (stepG a b) = stepG a (l.foldl stepG b)
  | [], a, b => rfl
  | x :: l, a, b => by rw [List.foldl_cons, List.foldl_cons, stepG_assoc, foldG_one l a]
theorem foldG_two {α : Type} (d : α) {l : List (α × Int)} (a : α × Int) (h0 : l ≠ []) (h : ∀ x ∈ l, 0 ≤ x.2) : l.foldl stepG a = stepG a (l.foldl stepG (d, -1)) := by
  cases l with
  | nil => exact absurd rfl h0
  | cons x l =>
    have e : stepG (d, -1) x = x := by unfold stepG; exact if_pos (by have := h x List.mem_cons_self; show (-1 : Int) < x.2; omega)
    rw [List.foldl_cons, List.foldl_cons, e, foldG_one]
theorem stepG_ge {α : Type} (a b : α × Int) : a.2 ≤ (stepG a b).2 ∧ b.2 ≤ (stepG a b).2 := by
  unfold stepG; split <;> omega
theorem foldG_best {α : Type} : ∀ (l : List (α × Int)) (a : α × Int), (l.foldl stepG a = a ∨ l.foldl stepG a ∈ l) ∧ a.2 ≤ (l.foldl stepG a).2 ∧ ∀ x ∈ l, x.2 ≤ (l.foldl stepG a).2
  | [], a => ⟨.inl rfl, Int.le_refl _, by simp⟩
  | y :: l, a => by
    obtain ⟨h1, h2, h3⟩ := foldG_best l (stepG a y)
    have hs : stepG a y = a ∨ stepG a y = y := by unfold stepG; split; exact .inr rfl; exact .inl rfl
    have hg := stepG_ge a y
    rw [List.foldl_cons]
    refine ⟨?_, by omega, fun x hx => ?_⟩
    · rcases h1 with e | e
      · rw [e]
        rcases hs with e2 | e2
        · exact .inl e2
        · exact .inr (by rw [e2]; exact List.mem_cons_self)
      · exact .inr (List.mem_cons_of_mem _ e)
    · rcases List.mem_cons.1 hx with rfl | hx
      · omega
      · exact h3 x hx

/-- All full orders that go on from P, with f more of the numbers 1 to m. -/
def extsG (m : Nat) : Nat → List Int → List (List Int)
  | 0, P => [P]
  | f + 1, P => (List.range m).flatMap fun i : Nat => if ((i : Int) + 1) ∈ P then [] else extsG m f (P ++ [(i : Int) + 1])
def extKG (m f : Nat) (P : List Int) (k : Nat) : List (List Int) := (List.range k).flatMap fun i : Nat => if ((i : Int) + 1) ∈ P then [] else extsG m f (P ++ [(i : Int) + 1])
theorem extKG_zero (m f : Nat) (P : List Int) : extKG m f P 0 = [] := rfl
theorem extKG_end (m f : Nat) (P : List Int) : extKG m f P m = extsG m (f + 1) P := rfl
theorem extKG_no {m f k : Nat} {P : List Int} (h : ((k : Int) + 1) ∈ P) : extKG m f P (k + 1) = extKG m f P k := by
  unfold extKG; rw [List.range_succ, List.flatMap_append]; simp [h]
theorem extKG_yes {m f k : Nat} {P : List Int} (h : ((k : Int) + 1) ∉ P) : extKG m f P (k + 1) = extKG m f P k ++ extsG m f (P ++ [(k : Int) + 1]) := by
  unfold extKG; rw [List.range_succ, List.flatMap_append]; simp [h]
theorem mem_extsG_succ {m f : Nat} {P O : List Int} : O ∈ extsG m (f + 1) P ↔ ∃ i : Nat, i < m ∧ ((i : Int) + 1) ∉ P ∧ O ∈ extsG m f (P ++ [(i : Int) + 1]) := by
  rw [extsG, List.mem_flatMap]
  constructor
  · rintro ⟨i, hi, h⟩
    by_cases hp : ((i : Int) + 1) ∈ P
    · rw [if_pos hp] at h; cases h
    · rw [if_neg hp] at h; exact ⟨i, List.mem_range.1 hi, hp, h⟩
  · rintro ⟨i, hi, hp, h⟩
    exact ⟨i, List.mem_range.2 hi, by rw [if_neg hp]; exact h⟩
/-- How many of the numbers 1 to m are not in P. -/
def un (P : List Int) : Nat → Nat
  | 0 => 0
  | m + 1 => un P m + (if ((m : Int) + 1) ∈ P then 0 else 1)
theorem un_nil : ∀ m, un [] m = m
  | 0 => rfl
  | m + 1 => by rw [un, un_nil m]; simp
theorem un_snoc {P : List Int} {k : Nat} (h : ((k : Int) + 1) ∉ P) : ∀ m, un (P ++ [(k : Int) + 1]) m + (if k < m then 1 else 0) = un P m
  | 0 => by simp [un]
  | m + 1 => by
    have ih := un_snoc h m
    rw [un, un]
    by_cases e : k = m
    · subst e
      rw [if_neg (show ¬ k < k by omega)] at ih
      rw [if_neg h, if_pos (by simp), if_pos (by omega)]; omega
    · have : ((m : Int) + 1 ∈ P ++ [(k : Int) + 1]) ↔ ((m : Int) + 1 ∈ P) := by
        rw [List.mem_append, List.mem_singleton]
        exact ⟨fun g => g.elim id (fun g => absurd g (by omega)), .inl⟩
      simp only [this]
      by_cases e2 : k < m
      · rw [if_pos e2] at ih; rw [if_pos (show k < m + 1 by omega)]; omega
      · rw [if_neg e2] at ih; rw [if_neg (show ¬ k < m + 1 by omega)]; omega
theorem un_ex {P : List Int} : ∀ {m : Nat}, 0 < un P m → ∃ k, k < m ∧ ((k : Int) + 1) ∉ P
  | 0, h => absurd h (by simp [un])
  | m + 1, h => by
    by_cases e : ((m : Int) + 1) ∈ P
    · rw [un, if_pos e] at h
      obtain ⟨k, h1, h2⟩ := un_ex (m := m) (by omega)
      exact ⟨k, by omega, h2⟩
    · exact ⟨m, by omega, e⟩
theorem extsG_ne {m : Nat} : ∀ {f : Nat} {P : List Int}, un P m = f → extsG m f P ≠ []
  | 0, P, _ => by simp [extsG]
  | f + 1, P, h => by
    obtain ⟨k, h1, h2⟩ := un_ex (P := P) (m := m) (by omega)
    have := un_snoc h2 m
    rw [if_pos h1] at this
    have ih := extsG_ne (m := m) (f := f) (P := P ++ [(k : Int) + 1]) (by omega)
    obtain ⟨O, hO⟩ := List.exists_mem_of_ne_nil _ ih
    exact List.ne_nil_of_mem (mem_extsG_succ.2 ⟨k, h1, h2, hO⟩)
theorem okO_snoc {n k : Nat} {P : List Int} (h : okO n P) (hk : k + 1 < n) (hp : ((k : Int) + 1) ∉ P) : okO n (P ++ [(k : Int) + 1]) := by
  intro j hj
  rw [List.length_append, List.length_singleton] at hj
  by_cases e : j < P.length
  · have e1 : (P ++ [(k : Int) + 1]).getD j 0 = P.getD j 0 := by
      rw [List.getD_eq_getElem?_getD, List.getD_eq_getElem?_getD, List.getElem?_append_left e]
    rw [e1, List.take_append_of_le_length (by omega)]
    exact h j e
  · obtain rfl : j = P.length := by omega
    have e1 : (P ++ [(k : Int) + 1]).getD P.length 0 = (k : Int) + 1 := by
      rw [List.getD_eq_getElem?_getD, List.getElem?_append_right (Nat.le_refl _)]; simp
    rw [e1, List.take_left]
    exact ⟨by omega, hp⟩
theorem extsG_ok {m : Nat} : ∀ {f : Nat} {P : List Int}, okO (m + 1) P → ∀ O ∈ extsG m f P, okO (m + 1) O ∧ O.length = P.length + f
  | 0, P, h, O, hO => by simp [extsG] at hO; subst hO; exact ⟨h, rfl⟩
  | f + 1, P, h, O, hO => by
    obtain ⟨i, hi, hp, hO⟩ := mem_extsG_succ.1 hO
    obtain ⟨h1, h2⟩ := extsG_ok (okO_snoc h (by omega) hp) O hO
    refine ⟨h1, ?_⟩
    rw [h2, List.length_append, List.length_singleton]; omega
theorem okO_nil (n : Nat) : okO n [] := fun k hk => absurd hk (by simp)
theorem extsG_all {m : Nat} : ∀ (R P : List Int), okO (m + 1) (P ++ R) → P ++ R ∈ extsG m R.length P
  | [], P, _ => by simp [extsG]
  | z :: R, P, h => by
    have h1 := h P.length (by simp)
    have e1 : (P ++ z :: R).getD P.length 0 = z := by
      rw [List.getD_eq_getElem?_getD, List.getElem?_append_right (Nat.le_refl _)]; simp
    rw [e1, List.take_left] at h1
    have e2 : ((z - 1).toNat : Int) + 1 = z := by omega
    have ih := extsG_all R (P ++ [z]) (by rw [List.append_assoc]; exact h)
    rw [List.length_cons, mem_extsG_succ]
    refine ⟨(z - 1).toNat, by omega, by rw [e2]; exact h1.2, ?_⟩
    rw [e2]
    rwa [List.append_assoc] at ih
theorem extsG_full {m : Nat} {o : List Int} (h : okO (m + 1) o) (hl : o.length = m) : o ∈ extsG m m [] := by
  have := extsG_all o [] h
  rwa [hl] at this

/-- What an order saves; the order that saves the most of some. -/
def svO (vs : List TPool) (o : List Int) : Int := runZ vs o true o.length
def bestL (vs : List TPool) (E : List (List Int)) : List Int × Int := (E.map fun o => (o, svO vs o)).foldl stepG ([], -1)
def okE (vs : List TPool) (E : List (List Int)) : Prop := ∀ O ∈ E, okO vs.length O ∧ O.length ≤ 4 ∧ allR vs O true
theorem okE.pos {vs : List TPool} {E : List (List Int)} (hg : goodPs vs) (h : okE vs E) {O : List Int} (hO : O ∈ E) : 0 ≤ svO vs O ∧ svO vs O ≤ 400000 := by
  obtain ⟨h1, h2, h3⟩ := h O hO
  have := canR.zbd ⟨hg, h1, h3⟩ O.length (Nat.le_refl _)
  unfold svO
  omega
theorem bestL_nil (vs : List TPool) : bestL vs [] = ([], -1) := rfl
theorem bestL_one {vs : List TPool} {O : List Int} (h : 0 ≤ svO vs O) : bestL vs [O] = (O, svO vs O) := by
  show stepG ([], -1) (O, svO vs O) = _
  unfold stepG
  exact if_pos (by show (-1 : Int) < svO vs O; omega)
theorem bestL_append {vs : List TPool} {E F : List (List Int)} (hg : goodPs vs) (hF : okE vs F) (h0 : F ≠ []) : bestL vs (E ++ F) = stepG (bestL vs E) (bestL vs F) := by
  unfold bestL
  rw [List.map_append, List.foldl_append]
  refine foldG_two [] _ (by simpa using h0) (fun x hx => ?_)
  obtain ⟨O, hO, rfl⟩ := List.mem_map.1 hx
  exact (hF.pos hg hO).1
theorem bestL_hit {vs : List TPool} {E : List (List Int)} (hg : goodPs vs) (hE : okE vs E) (h0 : E ≠ []) : (bestL vs E).1 ∈ E ∧ (bestL vs E).2 = svO vs (bestL vs E).1 ∧ ∀ O ∈ E, svO vs O ≤ (bestL vs E).2 := by
  obtain ⟨h1, h2, h3⟩ := foldG_best (E.map fun o => (o, svO vs o)) ([], -1)
  change (bestL vs E = _ ∨ bestL vs E ∈ _) at h1
  change ∀ x ∈ (E.map fun o => (o, svO vs o)), x.2 ≤ (bestL vs E).2 at h3
  have hle : ∀ O ∈ E, svO vs O ≤ (bestL vs E).2 := fun O hO => h3 (O, svO vs O) (List.mem_map.2 ⟨O, hO, rfl⟩)
  rcases h1 with e | e
  · obtain ⟨O, hO⟩ := List.exists_mem_of_ne_nil _ h0
    have := hle O hO
    have := (hE.pos hg hO).1
    rw [e] at *
    dsimp only at *
    omega
  · obtain ⟨O, hO, e⟩ := List.mem_map.1 e
    rw [← e]
    exact ⟨hO, rfl, by rw [← e] at hle; exact hle⟩
theorem bestL_pos {vs : List TPool} {E : List (List Int)} (hg : goodPs vs) (hE : okE vs E) (h0 : E ≠ []) : 0 ≤ (bestL vs E).2 ∧ (bestL vs E).2 ≤ 400000 := by
  obtain ⟨h1, h2, -⟩ := bestL_hit hg hE h0
  rw [h2]
  exact hE.pos hg h1
/-- The Pools behind the chamber as an order. -/
def rowI (p : List Nat) : List Int := p.map fun i : Nat => (i : Int) + 1
set_option maxRecDepth 100000 in
theorem extsG_prm (m : Nat) (h : m ≤ 4) : extsG m m [] = (prmN m).map rowI := by
  match m, h with
  | 0, _ => decide +kernel
  | 1, _ => decide +kernel
  | 2, _ => decide +kernel
  | 3, _ => decide +kernel
  | 4, _ => decide +kernel
/-- What the program holds ahead of order t. -/
def gI (vs : List TPool) (E : List (List Int)) : Nat → List Int × Int
  | 0 => (E.getD 0 [], 0)
  | t + 1 => stepG (gI vs E t) (E.getD t [], svO vs (E.getD t []))
theorem gI_all {vs : List TPool} {E : List (List Int)} (hg : goodPs vs) (hE : okE vs E) : ∀ t, t < E.length → gI vs E (t + 1) = bestL vs (E.take (t + 1))
  | 0, h => by
    have e : E.take 1 = [E.getD 0 []] := by
      cases E with
      | nil => simp at h
      | cons x l => rfl
    have hp := (hE.pos hg (O := E.getD 0 []) (by rw [getD_at [] h]; exact List.getElem_mem h)).1
    rw [e, bestL_one hp, gI, gI]
    unfold stepG
    dsimp only
    by_cases h1 : (0 : Int) < svO vs (E.getD 0 [])
    · rw [if_pos h1]
    · rw [if_neg h1]
      have : svO vs (E.getD 0 []) = 0 := by omega
      rw [this]
  | t + 1, h => by
    have ih := gI_all hg hE t (by omega)
    have hm : E[t + 1] ∈ E := List.getElem_mem h
    have hp := (hE.pos hg hm).1
    rw [gI, ih, List.take_succ_eq_append_getElem h, bestL_append hg (fun O hO => by simp at hO; subst hO; exact hE _ hm) (by simp), bestL_one hp, getD_at [] h]
/-- What BestDrain answers. -/
def allD (vs : List TPool) : Prop := ∀ O ∈ extsG (vs.length - 1) (vs.length - 1) [], allR vs O true
def bestD (vs : List TPool) : List Int × Int := bestL vs (extsG (vs.length - 1) (vs.length - 1) [])
def BesA (vs : List TPool) (L : List Int) (z : Int) (x : Bool) : Prop := (goodPs vs ∧ allD vs → L = (bestD vs).1 ∧ z = (bestD vs).2 ∧ x = true) ∧ (¬ (goodPs vs ∧ allD vs) → L = [] ∧ z = 0 ∧ x = false)
theorem besA_ex (vs : List TPool) : ∃ L z x, BesA vs L z x := by
  by_cases e : goodPs vs ∧ allD vs
  · exact ⟨_, _, true, fun _ => ⟨rfl, rfl, rfl⟩, fun h => absurd e h⟩
  · exact ⟨[], 0, false, fun h => absurd h e, fun _ => ⟨rfl, rfl, rfl⟩⟩
theorem allD.okE {vs : List TPool} (hg : goodPs vs) (h : allD vs) : okE vs (extsG (vs.length - 1) (vs.length - 1) []) := fun O hO => by
  have hl := hg.1
  obtain ⟨h1, h2⟩ := extsG_ok (okO_nil _) O hO
  rw [show vs.length - 1 + 1 = vs.length by omega] at h1
  simp at h2
  exact ⟨h1, by omega, h O hO⟩
theorem bestD_hit {vs : List TPool} (hg : goodPs vs) (h : allD vs) : okO vs.length (bestD vs).1 ∧ (bestD vs).1.length = vs.length - 1 ∧ allR vs (bestD vs).1 true ∧ (bestD vs).2 = svO vs (bestD vs).1 ∧ ∀ o, okO vs.length o → o.length = vs.length - 1 → svO vs o ≤ (bestD vs).2 := by
  have hl := hg.1
  have hE := h.okE hg
  obtain ⟨h1, h2, h3⟩ := bestL_hit hg hE (extsG_ne (un_nil _))
  obtain ⟨g1, g2⟩ := extsG_ok (okO_nil _) _ h1
  refine ⟨(hE _ h1).1, g2.trans (by simp), (hE _ h1).2.2, h2, fun o ho hol => h3 o (extsG_full (by rw [show vs.length - 1 + 1 = vs.length by omega]; exact ho) hol)⟩
theorem BesA.len {vs : List TPool} {L : List Int} {z : Int} {x : Bool} (h : BesA vs L z x) : L.length ≤ 4 := by
  by_cases e : goodPs vs ∧ allD vs
  · rw [(h.1 e).1, (bestD_hit e.1 e.2).2.1]; have := e.1.1; omega
  · rw [(h.2 e).1]; simp
end Go.Proofs.Ytgnopkemcgbedaa
