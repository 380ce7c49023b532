/- Chapter 7: the mathematics of orders: all of them, one after the other, and the shortest. -/
import Derived.Test.YtgnopkemcgbedabDgM
import Derived.Test.YtgnopkemcgbedabOrdP
namespace Go.Proofs.Ytgnopkemcgbedab
set_option linter.unusedVariables false

/-- The better of two: the first one, unless the second has less. -/
def stepB {α : Type} (acc o : α × Int) : α × Int := if acc.2 < 0 ∨ o.2 < acc.2 then o else acc
/-- The best of the first k. -/
def foldK {α : Type} (d : α) (g : Nat → α × Int) : Nat → α × Int
  | 0 => (d, -1)
  | k + 1 => stepB (foldK d g k) (g k)
/-- The best order that begins with R and goes on with those of T. -/
def bst : Nat → List TCargo → List TCargo → List TCargo × Int
  | 0, R, _ => (R, ext R)
  | f + 1, R, T => foldK [] (fun i => bst f (R ++ [T.getD i noCargo]) (T.eraseIdx i)) T.length
theorem stepB_assoc {α : Type} (a b c : α × Int) (hb : 0 ≤ b.2) : stepB (stepB a b) c = stepB a (stepB b c) := by
  unfold stepB
  obtain ⟨a1, a2⟩ := a
  obtain ⟨b1, b2⟩ := b
  obtain ⟨c1, c2⟩ := c
  simp only at hb
  by_cases h1 : a2 < 0 ∨ b2 < a2
  · rw [if_pos h1]
    by_cases h2 : b2 < 0 ∨ c2 < b2
    · rw [if_pos h2, if_pos (show a2 < 0 ∨ c2 < a2 by omega)]
    · rw [if_neg h2, if_pos h1]
  · rw [if_neg h1]
    by_cases h2 : b2 < 0 ∨ c2 < b2
    · rw [if_pos h2]
    · rw [if_neg h2, if_neg h1, if_neg (show ¬ (a2 < 0 ∨ c2 < a2) by omega)]
theorem stepB_pos {α : Type} (a b : α × Int) (ha : 0 ≤ a.2) (hb : 0 ≤ b.2) : 0 ≤ (stepB a b).2 := by
  unfold stepB
  split <;> assumption
theorem stepB_none {α : Type} (d : α) (b : α × Int) : stepB (d, -1) b = b := by
  unfold stepB
  exact if_pos (Or.inl (show (-1 : Int) < 0 by decide))
theorem fold_one {α : Type} : ∀ (l : List (α × Int)) (a b : α × Int), 0 ≤ b.2 → (∀ x ∈ l, 0 ≤ x.2) → l.foldl stepB (stepB a b) = stepB a (l.foldl stepB b)
  | [], a, b, _, _ => rfl
  | x :: l, a, b, hb, h => by
    have hx := h x List.mem_cons_self
    rw [List.foldl_cons, List.foldl_cons, stepB_assoc a b x hb]
    exact fold_one l a (stepB b x) (stepB_pos b x hb hx) (fun y hy => h y (List.mem_cons_of_mem _ hy))
theorem fold_two {α : Type} (d : α) (l : List (α × Int)) (a : α × Int) (h0 : l ≠ []) (h : ∀ x ∈ l, 0 ≤ x.2) : l.foldl stepB a = stepB a (l.foldl stepB (d, -1)) := by
  cases l with
  | nil => exact absurd rfl h0
  | cons x l =>
    rw [List.foldl_cons, List.foldl_cons, stepB_none]
    exact fold_one l a x (h x List.mem_cons_self) (fun y hy => h y (List.mem_cons_of_mem _ hy))
theorem fold_pos {α : Type} : ∀ (l : List (α × Int)) (a : α × Int), 0 ≤ a.2 → (∀ x ∈ l, 0 ≤ x.2) → 0 ≤ (l.foldl stepB a).2
  | [], a, ha, _ => ha
  | x :: l, a, ha, h => fold_pos l (stepB a x) (stepB_pos a x ha (h x List.mem_cons_self)) (fun y hy => h y (List.mem_cons_of_mem _ hy))
/-- The best of several is one of them and not more than any. -/
theorem fold_best {α : Type} : ∀ (l : List (α × Int)) (a : α × Int), 0 ≤ a.2 → (∀ x ∈ l, 0 ≤ x.2) → (l.foldl stepB a ∈ a :: l) ∧ ∀ x ∈ a :: l, (l.foldl stepB a).2 ≤ x.2
  | [], a, ha, _ => ⟨List.mem_cons_self, fun x hx => by simp at hx; rw [hx]; exact Int.le_refl _⟩
  | y :: l, a, ha, h => by
    have hy := h y List.mem_cons_self
    obtain ⟨h1, h2⟩ := fold_best l (stepB a y) (stepB_pos a y ha hy) (fun z hz => h z (List.mem_cons_of_mem _ hz))
    rw [List.foldl_cons]
    have hs : stepB a y = a ∨ stepB a y = y := by unfold stepB; split; exact .inr rfl; exact .inl rfl
    have hs2 : (stepB a y).2 ≤ a.2 ∧ (stepB a y).2 ≤ y.2 := by unfold stepB; split <;> constructor <;> omega
    refine ⟨?_, fun x hx => ?_⟩
    · rcases List.mem_cons.1 h1 with e | e
      · rw [e]
        rcases hs with e2 | e2 <;> rw [e2] <;> simp
      · exact List.mem_cons_of_mem _ (List.mem_cons_of_mem _ e)
    · have g := h2 _ List.mem_cons_self
      rcases List.mem_cons.1 hx with rfl | hx
      · omega
      · rcases List.mem_cons.1 hx with rfl | hx
        · omega
        · exact h2 x (List.mem_cons_of_mem _ hx)

theorem foldK_flat {α β : Type} (d : α) (g : Nat → List (α × Int)) (h0 : ∀ i, g i ≠ []) : ∀ n, (∀ i, i < n → ∀ x ∈ g i, 0 ≤ x.2) →
    ((List.range n).flatMap g).foldl stepB (d, -1) = foldK d (fun i => (g i).foldl stepB (d, -1)) n
  | 0, _ => rfl
  | n + 1, h => by
    rw [List.range_succ, List.flatMap_append, List.foldl_append, foldK_flat (β := β) d g h0 n (fun i hi => h i (by omega)), foldK]
    simp only [List.flatMap_cons, List.flatMap_nil, List.append_nil]
    exact fold_two d (g n) _ (h0 n) (h n (by omega))
theorem foldK_congr {α : Type} (d : α) {g k : Nat → α × Int} : ∀ n, (∀ i, i < n → g i = k i) → foldK d g n = foldK d k n
  | 0, _ => rfl
  | n + 1, h => by rw [foldK, foldK, foldK_congr d n (fun i hi => h i (by omega)), h n (by omega)]
theorem bst_prm : ∀ (f : Nat) (R T : List TCargo), T.length = f → (∀ v ∈ R ++ T, goodC v) →
    bst f R T = ((prm noCargo f T).map fun P => (R ++ P, ext (R ++ P))).foldl stepB ([], -1)
  | 0, R, T, h, hg => by simp [bst, prm, stepB_none]
  | f + 1, R, T, h, hg => by
    have hpos : ∀ P : List TCargo, P.Perm T → 0 ≤ ext (R ++ P) := fun P hP => (extK_bd (fun j hj => by
      rw [getCargo hj]
      have hm := List.getElem_mem hj
      refine hg _ ?_
      rcases List.mem_append.1 hm with h1 | h1
      · exact List.mem_append_left _ h1
      · exact List.mem_append_right _ (hP.mem_iff.1 h1))).1
    rw [bst, prm, List.map_flatMap]
    rw [show (fun a => List.map (fun P => (R ++ P, ext (R ++ P))) (List.map (T.getD a noCargo :: ·) (prm noCargo f (T.eraseIdx a)))) =
      (fun i => (prm noCargo f (T.eraseIdx i)).map fun P => (R ++ T.getD i noCargo :: P, ext (R ++ T.getD i noCargo :: P))) from by
        funext i; rw [List.map_map]; rfl]
    have key : ∀ i, i < T.length → bst f (R ++ [T.getD i noCargo]) (T.eraseIdx i) = (((prm noCargo f (T.eraseIdx i)).map fun P => (R ++ T.getD i noCargo :: P, ext (R ++ T.getD i noCargo :: P))).foldl stepB ([], -1)) := by
      intro i hi
      rw [bst_prm f _ _ (erase_len h hi) (fun v hv => hg v (by
        rw [getD_at noCargo hi] at hv
        rcases List.mem_append.1 hv with h1 | h1
        · rcases List.mem_append.1 h1 with h2 | h2
          · exact List.mem_append_left _ h2
          · simp at h2; rw [h2]; exact List.mem_append_right _ (List.getElem_mem hi)
        · exact List.mem_append_right _ (List.mem_of_mem_eraseIdx h1)))]
      simp only [List.append_assoc, List.cons_append, List.nil_append]
    rw [foldK_congr [] T.length key]
    have := foldK_flat (β := Nat) ([] : List TCargo) (fun i => if i < T.length then (prm noCargo f (T.eraseIdx i)).map fun P => (R ++ T.getD i noCargo :: P, ext (R ++ T.getD i noCargo :: P)) else [([], 0)]) (fun i => by
      by_cases hi : i < T.length
      · simp only [hi, if_true]
        intro e
        exact prm_ne noCargo (erase_len h hi) (List.map_eq_nil_iff.1 e)
      · simp only [hi, if_false]
        simp) T.length (fun i hi x hx => by
      simp only [hi, if_true] at hx
      obtain ⟨P, hP, rfl⟩ := List.mem_map.1 hx
      refine hpos _ ?_
      rw [getD_at noCargo hi]
      exact (List.Perm.cons _ (prm_perm noCargo (erase_len h hi) hP)).trans (erase_perm T i hi).symm)
    have e1 : ((List.range T.length).flatMap fun i => if i < T.length then (prm noCargo f (T.eraseIdx i)).map fun P => (R ++ T.getD i noCargo :: P, ext (R ++ T.getD i noCargo :: P)) else [([], 0)]) =
        (List.range T.length).flatMap fun i => (prm noCargo f (T.eraseIdx i)).map fun P => (R ++ T.getD i noCargo :: P, ext (R ++ T.getD i noCargo :: P)) := by
      unfold List.flatMap
      congr 1
      refine List.map_congr_left (fun i hi => ?_)
      rw [List.mem_range] at hi
      simp only [hi, if_true]
    rw [e1] at this
    rw [this]
    refine foldK_congr [] T.length (fun i hi => ?_)
    simp only [hi, if_true]

theorem range_map (S : List TCargo) : (List.range S.length).map (fun i => S.getD i noCargo) = S := by
  apply List.ext_getElem?
  intro j
  by_cases hj : j < S.length
  · rw [List.getElem?_map, List.getElem?_range hj, Option.map_some, getCargo hj, List.getElem?_eq_getElem hj]
  · rw [List.getElem?_eq_none (by simp; omega), List.getElem?_eq_none (by omega)]
theorem prm_idx (S : List TCargo) : prm noCargo S.length S = (prmN S.length).map (List.map fun i => S.getD i noCargo) := by
  have := prm_map (fun i => S.getD i noCargo) 9 noCargo S.length (List.range S.length) (by simp)
  rw [range_map] at this
  exact this

/-- S is the list in ascending order of Id. -/
def Asc (vs S : List TCargo) : Prop := S.Perm vs ∧ S.Pairwise fun a b => a.x0 < b.x0
theorem asc_one {vs S T : List TCargo} (h : Asc vs S) (k : Asc vs T) : S = T := by
  refine List.Perm.eq_of_pairwise (le := fun a b => a.x0 < b.x0) ?_ h.2 k.2 (h.1.trans k.1.symm)
  intro a b _ _ h1 h2
  omega
/-- What both must answer: the Ids in the shortest order, and its extent. -/
def ShortA (vs : List TCargo) (L : List Int) (z : Int) (x : Bool) : Prop :=
  (gCs vs = true → x = true ∧ ∀ S, Asc vs S → L = (bst S.length [] S).1.map (·.x0) ∧ z = (bst S.length [] S).2) ∧ (gCs vs = false → L = [] ∧ z = 0 ∧ x = false)
theorem insA (x : TCargo) : ∀ L : List TCargo, (L.Pairwise fun a b => a.x0 < b.x0) → (∀ a ∈ L, a.x0 ≠ x.x0) → ∃ M : List TCargo, M.Perm (x :: L) ∧ M.Pairwise fun a b => a.x0 < b.x0
  | [], _, _ => ⟨[x], List.Perm.refl _, by simp⟩
  | y :: t, h, hn => by
    by_cases hy : y.x0 < x.x0
    · obtain ⟨M, h1, h2⟩ := insA x t (List.pairwise_cons.1 h).2 (fun a ha => hn a (List.mem_cons_of_mem _ ha))
      refine ⟨y :: M, (List.Perm.cons y h1).trans (List.Perm.swap _ _ _), List.pairwise_cons.2 ⟨fun a ha => ?_, h2⟩⟩
      rcases List.mem_cons.1 (h1.mem_iff.1 ha) with rfl | ha
      · exact hy
      · exact (List.pairwise_cons.1 h).1 a ha
    · refine ⟨x :: y :: t, List.Perm.refl _, List.pairwise_cons.2 ⟨fun a ha => ?_, h⟩⟩
      have hyx : x.x0 < y.x0 := by have := hn y List.mem_cons_self; omega
      rcases List.mem_cons.1 ha with rfl | ha
      · exact hyx
      · have := (List.pairwise_cons.1 h).1 a ha; omega
theorem asc_ex : ∀ (vs : List TCargo), (vs.Pairwise fun a b => a.x0 ≠ b.x0) → ∃ S, Asc vs S
  | [], _ => ⟨[], List.Perm.refl _, by simp⟩
  | x :: t, h => by
    obtain ⟨S, h1, h2⟩ := asc_ex t (List.pairwise_cons.1 h).2
    obtain ⟨M, h3, h4⟩ := insA x S h2 (fun a ha => ((List.pairwise_cons.1 h).1 a (h1.mem_iff.1 ha)).symm)
    exact ⟨M, h3.trans (List.Perm.cons x h1), h4⟩
/-- The shortest order is an order, and no other one is shorter. -/
theorem short_best {vs S : List TCargo} (hg : goodCs vs) (hS : Asc vs S) : (bst S.length [] S).1.Perm vs ∧ (bst S.length [] S).2 = ext (bst S.length [] S).1 ∧ ∀ P : List TCargo, P.Perm vs → (bst S.length [] S).2 ≤ ext P := by
  have hgS := goodCs_perm hg hS.1
  have hgood := ((goodCs_iff S).1 hgS).2.1
  have e := bst_prm S.length [] S rfl (by simpa using hgood)
  simp only [List.nil_append] at e
  have hpos : ∀ P : List TCargo, P.Perm S → 0 ≤ ext P := fun P hP => (extK_bd (fun j hj => by
    rw [getCargo hj]
    exact hgood _ (hP.mem_iff.1 (List.getElem_mem hj)))).1
  have hall : ∀ x ∈ (prm noCargo S.length S).map fun P => (P, ext P), 0 ≤ x.2 := by
    intro x hx
    obtain ⟨P, hP, rfl⟩ := List.mem_map.1 hx
    exact hpos P (prm_perm noCargo rfl hP)
  obtain ⟨y, l, hl⟩ : ∃ y l, ((prm noCargo S.length S).map fun P => (P, ext P)) = y :: l := by
    cases h : ((prm noCargo S.length S).map fun P => (P, ext P)) with
    | nil => exact absurd (List.map_eq_nil_iff.1 h) (prm_ne noCargo rfl)
    | cons y l => exact ⟨y, l, rfl⟩
  have e2 : bst S.length [] S = l.foldl stepB y := by rw [e, hl, List.foldl_cons, stepB_none]
  rw [hl] at hall
  obtain ⟨h1, h2⟩ := fold_best l y (hall y List.mem_cons_self) (fun x hx => hall x (List.mem_cons_of_mem _ hx))
  rw [← e2] at h1 h2
  rw [← hl] at h1 h2
  obtain ⟨P, hP, hPe⟩ := List.mem_map.1 h1
  refine ⟨?_, ?_, fun Q hQ => ?_⟩
  · rw [← hPe]; exact (prm_perm noCargo rfl hP).trans hS.1
  · rw [← hPe]
  · exact h2 (Q, ext Q) (List.mem_map.2 ⟨Q, prm_all noCargo rfl (hQ.trans hS.1.symm), rfl⟩)
theorem shortA_ex (vs : List TCargo) : ∃ L z x, ShortA vs L z x := by
  by_cases h : gCs vs = true
  · obtain ⟨S, hS⟩ := asc_ex vs ((goodCs_iff vs).1 ((gCs_iff vs).1 h)).2.2
    exact ⟨_, _, true, fun _ => ⟨rfl, fun T hT => by rw [asc_one hT hS]; exact ⟨rfl, rfl⟩⟩, fun e => absurd h (by rw [e]; simp)⟩
  · have h' : gCs vs = false := by cases e : gCs vs with | false => rfl | true => exact absurd e h
    exact ⟨[], 0, false, fun e => absurd e h, fun _ => ⟨rfl, rfl, rfl⟩⟩
theorem shortA_len {vs : List TCargo} {L : List Int} {z : Int} {x : Bool} (h : ShortA vs L z x) : L.length ≤ 6 := by
  by_cases hg : gCs vs = true
  · have hgg := (gCs_iff vs).1 hg
    obtain ⟨S, hS⟩ := asc_ex vs ((goodCs_iff vs).1 hgg).2.2
    rw [((h.1 hg).2 S hS).1, List.length_map, (short_best hgg hS).1.length_eq]
    exact hgg.1
  · have h' : gCs vs = false := by cases e : gCs vs with | false => rfl | true => exact absurd e hg
    rw [(h.2 h').1]
    simp
end Go.Proofs.Ytgnopkemcgbedab
