/- Chapter 7: the mathematics of rows: valid lists, gaps, cells, pairs. -/
import Derived.Test.YtgnopkemcgbedabSCargo
namespace Go.Proofs.Ytgnopkemcgbedab
set_option linter.unusedVariables false

def goodC (v : TCargo) : Prop := (1 ≤ v.x0 ∧ v.x0 ≤ 99) ∧ (1 ≤ v.x1 ∧ v.x1 ≤ 8) ∧ (0 ≤ v.x2 ∧ v.x2 ≤ 3)
instance (v : TCargo) : Decidable (goodC v) := by unfold goodC; infer_instance
def okCs (vs : List TCargo) (k : Nat) : Prop := goodC (vs.getD k noCargo) ∧ ∀ j, j < k → (vs.getD j noCargo).x0 ≠ (vs.getD k noCargo).x0
def goodCs (vs : List TCargo) : Prop := vs.length ≤ 6 ∧ ∀ k, k < vs.length → okCs vs k
noncomputable def gCs (vs : List TCargo) : Bool := open Classical in decide (goodCs vs)
theorem gCs_iff (vs : List TCargo) : gCs vs = true ↔ goodCs vs := by unfold gCs; simp
theorem gCs_yes {vs : List TCargo} (h : goodCs vs) : gCs vs = true := (gCs_iff vs).2 h
theorem gCs_no {vs : List TCargo} (h : ¬ goodCs vs) : gCs vs = false := by unfold gCs; simp [h]
theorem goodCs_iff (vs : List TCargo) : goodCs vs ↔ vs.length ≤ 6 ∧ (∀ v ∈ vs, goodC v) ∧ vs.Pairwise (fun a b => a.x0 ≠ b.x0) := by
  unfold goodCs
  refine and_congr Iff.rfl ⟨fun h => ⟨fun v hv => ?_, ?_⟩, fun h k hk => ⟨?_, fun j hj => ?_⟩⟩
  · obtain ⟨k, hk, rfl⟩ := List.mem_iff_getElem.1 hv
    have := (h k hk).1
    rwa [getCargo hk] at this
  · rw [List.pairwise_iff_getElem]
    intro i j hi hj hij
    have := (h j hj).2 i hij
    rwa [getCargo hi, getCargo hj] at this
  · rw [getCargo hk]
    exact h.1 _ (List.getElem_mem hk)
  · rw [getCargo hk, getCargo (by omega)]
    exact List.pairwise_iff_getElem.1 h.2 j k (by omega) hk hj
theorem goodCs_perm {vs us : List TCargo} (h : goodCs vs) (hp : us.Perm vs) : goodCs us := by
  rw [goodCs_iff] at h ⊢
  refine ⟨by rw [hp.length_eq]; exact h.1, fun v hv => h.2.1 v (hp.mem_iff.1 hv), ?_⟩
  exact (hp.pairwise_iff (fun {a b} h => Ne.symm h)).2 h.2.2

/-- The cells between two vessels with these Cones. -/
def gapZ (x y : Int) : Int := if x = 3 ∨ y = 3 then 5 else x + y
theorem gap_bd {x y : Int} (hx : 0 ≤ x ∧ x ≤ 3) (hy : 0 ≤ y ∧ y ≤ 3) : 0 ≤ gapZ x y ∧ gapZ x y ≤ 5 := by unfold gapZ; split <;> omega
theorem gap_comm (x y : Int) : gapZ x y = gapZ y x := by
  unfold gapZ
  by_cases h : x = 3 ∨ y = 3
  · rw [if_pos h, if_pos h.symm]
  · rw [if_neg h, if_neg (fun g => h g.symm)]; omega

/-- The smallest cell from s on that is far enough from the first j, for a vessel with c Cones. -/
def mxAt (vs : List TCargo) (out : List Int) (c s : Int) : Nat → Int
  | 0 => s
  | j + 1 => max (mxAt vs out c s j) (out.getD j 0 + (vs.getD j noCargo).x1 + gapZ (vs.getD j noCargo).x2 c)
/-- The first cells of the first k vessels. -/
def plc (vs : List TCargo) : Nat → List Int
  | 0 => []
  | k + 1 => plc vs k ++ [mxAt vs (plc vs k) (vs.getD k noCargo).x2 0 k]
/-- The extent of the first k vessels. -/
def extK (vs : List TCargo) : Nat → Int
  | 0 => 0
  | k + 1 => (plc vs (k + 1)).getD k 0 + (vs.getD k noCargo).x1
def ext (vs : List TCargo) : Int := extK vs vs.length
theorem plc_len (vs : List TCargo) : ∀ k, (plc vs k).length = k
  | 0 => rfl
  | k + 1 => by rw [plc, List.length_append, plc_len vs k]; rfl
theorem plc_top (vs : List TCargo) (k : Nat) : (plc vs (k + 1)).getD k 0 = mxAt vs (plc vs k) (vs.getD k noCargo).x2 0 k := by
  rw [plc, List.getD_eq_getElem?_getD, List.getElem?_append_right (by rw [plc_len]; exact Nat.le_refl _), plc_len]
  simp
theorem plc_pre (vs : List TCargo) {j k : Nat} (h : j < k) : (plc vs (k + 1)).getD j 0 = (plc vs k).getD j 0 := by
  rw [plc, List.getD_eq_getElem?_getD, List.getElem?_append_left (by rw [plc_len]; exact h), ← List.getD_eq_getElem?_getD]
theorem plc_le (vs : List TCargo) {j : Nat} : ∀ {k d : Nat}, j < k → (plc vs (k + d)).getD j 0 = (plc vs k).getD j 0
  | k, 0, h => rfl
  | k, d + 1, h => by
    rw [← Nat.add_assoc, plc_pre vs (show j < k + d by omega)]
    exact plc_le vs h
theorem mxAt_ge (vs : List TCargo) (out : List Int) (c s : Int) : ∀ k, s ≤ mxAt vs out c s k
  | 0 => Int.le_refl _
  | k + 1 => by have := mxAt_ge vs out c s k; rw [mxAt]; omega
theorem mxAt_term (vs : List TCargo) (out : List Int) (c s : Int) {j : Nat} : ∀ {k : Nat}, j < k → out.getD j 0 + (vs.getD j noCargo).x1 + gapZ (vs.getD j noCargo).x2 c ≤ mxAt vs out c s k
  | 0, h => absurd h (by omega)
  | k + 1, h => by
    rw [mxAt]
    rcases Nat.lt_succ_iff_lt_or_eq.1 h with h1 | rfl
    · have := mxAt_term vs out c s h1; omega
    · omega
theorem mxAt_two (vs : List TCargo) (out : List Int) (c s t : Int) : ∀ k, mxAt vs out c (max s t) k = max s (mxAt vs out c t k)
  | 0 => rfl
  | k + 1 => by rw [mxAt, mxAt, mxAt_two vs out c s t k]; omega
theorem mxAt_bd (vs : List TCargo) (out : List Int) (c s B : Int) (hs : 0 ≤ s ∧ s ≤ B) : ∀ k, (∀ j, j < k → out.getD j 0 + (vs.getD j noCargo).x1 + gapZ (vs.getD j noCargo).x2 c ≤ B) → 0 ≤ mxAt vs out c s k ∧ mxAt vs out c s k ≤ B
  | 0, _ => hs
  | k + 1, h => by
    have h1 := mxAt_bd vs out c s B hs k (fun j hj => h j (by omega))
    have h2 := h k (by omega)
    rw [mxAt]
    omega
theorem plc_bd {vs : List TCargo} : ∀ {k : Nat}, (∀ j, j < k → goodC (vs.getD j noCargo)) → ∀ j, j < k → 0 ≤ (plc vs k).getD j 0 ∧ (plc vs k).getD j 0 ≤ 13 * j
  | 0, _, j, hj => absurd hj (by omega)
  | k + 1, h, j, hj => by
    have ih := plc_bd (k := k) (fun i hi => h i (by omega))
    rcases Nat.lt_succ_iff_lt_or_eq.1 hj with h1 | rfl
    · rw [plc_pre vs h1]
      exact ih j h1
    · rw [plc_top]
      refine mxAt_bd vs _ _ 0 (13 * j) (by omega) j (fun i hi => ?_)
      have h1 := ih i hi
      have h2 := h i (by omega)
      have h3 := gap_bd h2.2.2 (h j (by omega)).2.2
      have h4 := h2.2.1
      omega
theorem extK_bd {vs : List TCargo} {k : Nat} (h : ∀ j, j < k → goodC (vs.getD j noCargo)) : 0 ≤ extK vs k ∧ extK vs k ≤ 13 * k := by
  cases k with
  | zero => exact ⟨Int.le_refl _, by simp [extK]⟩
  | succ k =>
    have h1 := plc_bd h k (by omega)
    have h2 := (h k (by omega)).2.1
    rw [extK]
    omega
/-- It is the same whether one begins at the end of the one before or at 0. -/
theorem start_same {vs : List TCargo} {k : Nat} (h : ∀ j, j < k → goodC (vs.getD j noCargo)) {c : Int} (hc : 0 ≤ c ∧ c ≤ 3) : mxAt vs (plc vs k) c (extK vs k) k = mxAt vs (plc vs k) c 0 k := by
  cases k with
  | zero => rfl
  | succ k =>
    have hb := extK_bd h
    have h1 := mxAt_two vs (plc vs (k + 1)) c (extK vs (k + 1)) 0 (k + 1)
    rw [show max (extK vs (k + 1)) 0 = extK vs (k + 1) by omega] at h1
    rw [h1]
    have h2 := mxAt_term vs (plc vs (k + 1)) c 0 (j := k) (k := k + 1) (by omega)
    have h3 := gap_bd (h k (by omega)).2.2 hc
    rw [show extK vs (k + 1) = (plc vs (k + 1)).getD k 0 + (vs.getD k noCargo).x1 from rfl]
    omega
/-- Vessels that are placed are far enough from one another. -/
theorem plc_safe (vs : List TCargo) {i j k : Nat} (hij : i < j) (hj : j < k) : (plc vs k).getD i 0 + (vs.getD i noCargo).x1 + gapZ (vs.getD i noCargo).x2 (vs.getD j noCargo).x2 ≤ (plc vs k).getD j 0 := by
  obtain ⟨d, rfl⟩ : ∃ d, k = j + 1 + d := ⟨k - (j + 1), by omega⟩
  rw [plc_le vs (show j < j + 1 by omega), plc_le vs (show i < j + 1 by omega), plc_top, plc_pre vs hij]
  exact mxAt_term vs (plc vs j) (vs.getD j noCargo).x2 0 hij
theorem good_at {vs : List TCargo} (h : goodCs vs) {k : Nat} (hk : k < vs.length) : goodC (vs.getD k noCargo) := (h.2 k hk).1

/-- The cells between two vessels; negative if they meet. -/
def betZ (a b : TCargo) (p q : Int) : Int := max (q - (p + a.x1)) (p - (q + b.x1))
def badP (vs : List TCargo) (cs : List Int) (i j : Nat) : Bool :=
  decide ((vs.getD i noCargo).x0 < (vs.getD j noCargo).x0 ∧ betZ (vs.getD i noCargo) (vs.getD j noCargo) (cs.getD i 0) (cs.getD j 0) < gapZ (vs.getD i noCargo).x2 (vs.getD j noCargo).x2)
def prP (vs : List TCargo) (i j : Nat) : Int × Int := ((vs.getD i noCargo).x0, (vs.getD j noCargo).x0)
def rowP (vs : List TCargo) (cs : List Int) (i : Nat) : Nat → List (Int × Int)
  | 0 => []
  | j + 1 => rowP vs cs i j ++ if badP vs cs i j then [prP vs i j] else []
def allP (vs : List TCargo) (cs : List Int) (n : Nat) : Nat → List (Int × Int)
  | 0 => []
  | i + 1 => allP vs cs n i ++ rowP vs cs i n
theorem rowP_len (vs : List TCargo) (cs : List Int) (i : Nat) : ∀ j, (rowP vs cs i j).length ≤ j
  | 0 => Nat.le_refl _
  | j + 1 => by
    have := rowP_len vs cs i j
    rw [rowP]
    split <;> simp <;> omega
theorem allP_len (vs : List TCargo) (cs : List Int) (n : Nat) : ∀ i, (allP vs cs n i).length ≤ i * n
  | 0 => by simp [allP]
  | i + 1 => by
    have h1 := allP_len vs cs n i
    have h2 := rowP_len vs cs i n
    rw [allP, List.length_append, Nat.succ_mul]
    omega
def ltP (x y : Int × Int) : Prop := x.1 < y.1 ∨ x.1 = y.1 ∧ x.2 < y.2
instance (x y : Int × Int) : Decidable (ltP x y) := by unfold ltP; infer_instance
def ordP (L : List (Int × Int)) : Prop := L.Pairwise fun x y => ¬ ltP y x
/-- What both must answer: the pairs in their order. -/
def PairsA (vs : List TCargo) (cs : List Int) (L : List (Int × Int)) : Prop := L.Perm (allP vs cs vs.length vs.length) ∧ ordP L
theorem pairs_one {vs : List TCargo} {cs : List Int} {L M : List (Int × Int)} (h : PairsA vs cs L) (k : PairsA vs cs M) : L = M := by
  refine List.Perm.eq_of_pairwise (le := fun x y => ¬ ltP y x) ?_ h.2 k.2 (h.1.trans k.1.symm)
  intro a b _ _ h1 h2
  unfold ltP at h1 h2
  obtain ⟨a1, a2⟩ := a
  obtain ⟨b1, b2⟩ := b
  simp only at h1 h2
  have e1 : a1 = b1 := by omega
  have e2 : a2 = b2 := by omega
  rw [e1, e2]
theorem ord_ins {A B : List (Int × Int)} {x : Int × Int} (h : ordP (A ++ B)) (ha : ∀ a ∈ A, ltP a x) (hb : ∀ b, B[0]? = some b → ¬ ltP b x) : ordP (A ++ x :: B) := by
  unfold ordP at *
  rw [List.pairwise_append] at h ⊢
  obtain ⟨h1, h2, h3⟩ := h
  have hbx : ∀ b ∈ B, ¬ ltP b x := by
    cases B with
    | nil => intro b hb'; cases hb'
    | cons b0 t =>
      have g := hb b0 rfl
      intro b hb'
      rcases List.mem_cons.1 hb' with rfl | hb'
      · exact g
      · have := (List.pairwise_cons.1 h2).1 b hb'
        unfold ltP at *
        omega
  refine ⟨h1, List.pairwise_cons.2 ⟨fun b hb' => hbx b hb', h2⟩, fun a ha' b hb' => ?_⟩
  rcases List.mem_cons.1 hb' with rfl | hb'
  · have := ha a ha'
    unfold ltP at *
    omega
  · exact h3 a ha' b hb'
theorem pairs_ex (vs : List TCargo) (cs : List Int) : ∃ L, PairsA vs cs L := by
  suffices h : ∀ l : List (Int × Int), ∃ L, L.Perm l ∧ ordP L from h _
  intro l
  induction l with
  | nil => exact ⟨[], List.Perm.refl _, List.Pairwise.nil⟩
  | cons x t ih =>
    obtain ⟨L, hp, ho⟩ := ih
    have : ∃ A B, L = A ++ B ∧ (∀ a ∈ A, ltP a x) ∧ ∀ b, B[0]? = some b → ¬ ltP b x := by
      clear hp ho
      induction L with
      | nil => exact ⟨[], [], rfl, by simp, by simp⟩
      | cons y s ih2 =>
        by_cases hy : ltP y x
        · obtain ⟨A, B, e, h1, h2⟩ := ih2
          refine ⟨y :: A, B, by rw [e]; rfl, fun a ha => ?_, h2⟩
          rcases List.mem_cons.1 ha with rfl | ha
          · exact hy
          · exact h1 a ha
        · exact ⟨[], y :: s, rfl, by simp, fun b hb => by simp at hb; rw [← hb]; exact hy⟩
    obtain ⟨A, B, rfl, h1, h2⟩ := this
    exact ⟨A ++ x :: B, List.perm_middle.trans (List.Perm.cons x hp), ord_ins ho h1 h2⟩
theorem pairsA_len {vs : List TCargo} {cs : List Int} {L : List (Int × Int)} (h : PairsA vs cs L) (hn : vs.length ≤ 6) : L.length ≤ 36 := by
  rw [h.1.length_eq]
  have := allP_len vs cs vs.length vs.length
  have : vs.length * vs.length ≤ 6 * 6 := Nat.mul_le_mul hn hn
  omega
/-- Placed vessels have no bad pair. -/
theorem rowP_nil {vs : List TCargo} {cs : List Int} {i : Nat} : ∀ {k : Nat}, (∀ j, j < k → badP vs cs i j = false) → rowP vs cs i k = []
  | 0, _ => rfl
  | k + 1, h => by rw [rowP, rowP_nil (fun j hj => h j (by omega)), h k (by omega)]; rfl
theorem allP_nil {vs : List TCargo} {cs : List Int} {n : Nat} : ∀ {k : Nat}, (∀ i, i < k → ∀ j, j < n → badP vs cs i j = false) → allP vs cs n k = []
  | 0, _ => rfl
  | k + 1, h => by rw [allP, allP_nil (fun i hi => h i (by omega)), rowP_nil (h k (by omega))]; rfl
theorem placed_none {vs : List TCargo} {L : List (Int × Int)} (h : PairsA vs (plc vs vs.length) L) : L = [] := by
  have e : allP vs (plc vs vs.length) vs.length vs.length = [] := allP_nil (fun i hi j hj => by
    unfold badP
    refine decide_eq_false (fun ⟨h1, h2⟩ => ?_)
    rcases Nat.lt_trichotomy i j with h3 | rfl | h3
    · have := plc_safe vs h3 hj
      unfold betZ at h2
      omega
    · omega
    · have := plc_safe vs h3 hi
      rw [gap_comm] at this
      unfold betZ at h2
      omega)
  have := h.1
  rw [e] at this
  exact List.perm_nil.1 this

/-- x is more dangerous than y. -/
def MoreD (x y : TCargo) : Prop := y.x2 < x.x2 ∨ x.x2 = y.x2 ∧ (y.x1 < x.x1 ∨ x.x1 = y.x1 ∧ x.x0 < y.x0)
instance (x y : TCargo) : Decidable (MoreD x y) := by unfold MoreD; infer_instance
/-- The most dangerous one of the first k + 1. -/
def mostC (vs : List TCargo) : Nat → TCargo
  | 0 => vs.getD 0 noCargo
  | k + 1 => if MoreD (vs.getD (k + 1) noCargo) (mostC vs k) then vs.getD (k + 1) noCargo else mostC vs k
theorem mostC_at (vs : List TCargo) : ∀ k, ∃ j, j ≤ k ∧ mostC vs k = vs.getD j noCargo
  | 0 => ⟨0, Nat.le_refl _, rfl⟩
  | k + 1 => by
    obtain ⟨j, hj, e⟩ := mostC_at vs k
    rw [mostC]
    split
    · exact ⟨k + 1, Nat.le_refl _, rfl⟩
    · exact ⟨j, by omega, e⟩
end Go.Proofs.Ytgnopkemcgbedab
