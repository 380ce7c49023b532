/- Orders of a list, all of them, one after the other; the one that follows. Nothing of the program. -/
import Derived.Test.YtgnopkemcgbedaaMem
namespace Go.Proofs.Ytgnopkemcgbedaa
set_option linter.unusedVariables false

/-- All orders of a list. -/
def prm {α : Type} (d : α) : Nat → List α → List (List α)
  | 0, _ => [[]]
  | f + 1, T => (List.range T.length).flatMap fun i => (prm d f (T.eraseIdx i)).map (T.getD i d :: ·)

theorem erase_perm {α : Type} : ∀ (T : List α) (i : Nat) (h : i < T.length), T.Perm (T[i] :: T.eraseIdx i)
  | [], i, h => absurd h (by simp)
  | x :: t, 0, h => List.Perm.refl _
  | x :: t, i + 1, h => by
    have ih := erase_perm t i (by simpa using h)
    rw [List.eraseIdx_cons_succ, List.getElem_cons_succ]
    exact (List.Perm.cons x ih).trans (List.Perm.swap _ _ _)
theorem erase_len {α : Type} {T : List α} {i f : Nat} (h : T.length = f + 1) (hi : i < T.length) : (T.eraseIdx i).length = f := by
  rw [List.length_eraseIdx, if_pos hi, h]
  rfl
theorem getD_at {α : Type} (d : α) {T : List α} {i : Nat} (h : i < T.length) : T.getD i d = T[i] := by
  rw [List.getD_eq_getElem?_getD, List.getElem?_eq_getElem h]
  rfl
theorem prm_perm {α : Type} (d : α) : ∀ {f : Nat} {T P : List α}, T.length = f → P ∈ prm d f T → P.Perm T
  | 0, T, P, h, hP => by
    rw [List.eq_nil_of_length_eq_zero h]
    simp [prm] at hP
    rw [hP]
  | f + 1, T, P, h, hP => by
    rw [prm, List.mem_flatMap] at hP
    obtain ⟨i, hi, hP⟩ := hP
    rw [List.mem_range] at hi
    obtain ⟨Q, hQ, rfl⟩ := List.mem_map.1 hP
    have := prm_perm d (erase_len h hi) hQ
    rw [getD_at d hi]
    exact (List.Perm.cons _ this).trans (erase_perm T i hi).symm
theorem prm_all {α : Type} (d : α) : ∀ {f : Nat} {T P : List α}, T.length = f → P.Perm T → P ∈ prm d f T
  | 0, T, P, h, hP => by
    have := List.eq_nil_of_length_eq_zero h
    subst this
    rw [List.perm_nil.1 hP]
    simp [prm]
  | f + 1, T, P, h, hP => by
    cases P with
    | nil => have := hP.length_eq; simp at this; omega
    | cons a P =>
      obtain ⟨i, hi, rfl⟩ := List.mem_iff_getElem.1 (hP.mem_iff.1 List.mem_cons_self)
      rw [prm, List.mem_flatMap]
      refine ⟨i, List.mem_range.2 hi, List.mem_map.2 ⟨P, prm_all d (erase_len h hi) ?_, by rw [getD_at d hi]⟩⟩
      exact List.Perm.cons_inv (hP.trans (erase_perm T i hi))
theorem prm_ne {α : Type} (d : α) {f : Nat} {T : List α} (h : T.length = f) : prm d f T ≠ [] := by
  have := prm_all d h (List.Perm.refl T)
  intro e
  rw [e] at this
  cases this
/-- The order that follows on one, if there is any. -/
def descI (p : List Nat) : Nat → Option Nat
  | 0 => none
  | k + 1 => if p.getD (k + 1) 0 < p.getD k 0 then descI p k else some k
def lastI (p : List Nat) (x : Nat) : Nat → Nat
  | 0 => 0
  | j + 1 => if p.getD (j + 1) 0 < x then lastI p x j else j + 1
def swpI (p : List Nat) (i j : Nat) : List Nat := (p.set i (p.getD j 0)).set j (p.getD i 0)
def nextI (p : List Nat) : Option (List Nat) :=
  match descI p (p.length - 1) with
  | none => none
  | some i => some ((swpI p i (lastI p (p.getD i 0) (p.length - 1))).take (i + 1) ++ ((swpI p i (lastI p (p.getD i 0) (p.length - 1))).drop (i + 1)).reverse)
def chn : List (List Nat) → Bool
  | [] => true
  | [p] => decide (nextI p = none)
  | p :: q :: r => decide (nextI p = some q) && chn (q :: r)
def prmN (n : Nat) : List (List Nat) := prm 9 n (List.range n)
set_option maxRecDepth 100000 in
theorem chn_all (n : Nat) (h : n ≤ 6) : chn (prmN n) = true := by
  match n, h with
  | 0, _ => decide +kernel
  | 1, _ => decide +kernel
  | 2, _ => decide +kernel
  | 3, _ => decide +kernel
  | 4, _ => decide +kernel
  | 5, _ => decide +kernel
  | 6, _ => decide +kernel
theorem first_all (n : Nat) (h : n ≤ 6) : (prmN n)[0]? = some (List.range n) := by
  match n, h with
  | 0, _ => decide +kernel
  | 1, _ => decide +kernel
  | 2, _ => decide +kernel
  | 3, _ => decide +kernel
  | 4, _ => decide +kernel
  | 5, _ => decide +kernel
  | 6, _ => decide +kernel
theorem chn_at : ∀ {L : List (List Nat)}, chn L = true → ∀ {t : Nat} (h : t < L.length), nextI L[t] = L[t + 1]?
  | [], _, t, h => absurd h (by simp)
  | [p], hc, t, h => by
    have : t = 0 := by simp at h; exact h
    subst this
    simpa [chn] using hc
  | p :: q :: r, hc, t, h => by
    rw [chn, Bool.and_eq_true, decide_eq_true_eq] at hc
    cases t with
    | zero => simpa using hc.1
    | succ t =>
      have := chn_at hc.2 (t := t) (by simpa using h)
      simpa using this
theorem map_erase {α β : Type} (g : α → β) : ∀ (l : List α) (i : Nat), (l.map g).eraseIdx i = (l.eraseIdx i).map g
  | [], _ => rfl
  | x :: t, 0 => rfl
  | x :: t, i + 1 => by rw [List.map_cons, List.eraseIdx_cons_succ, List.eraseIdx_cons_succ, List.map_cons, map_erase g t i]
theorem prm_map {α β : Type} (g : α → β) (d : α) (d2 : β) : ∀ (f : Nat) (I : List α), I.length = f → prm d2 f (I.map g) = (prm d f I).map (List.map g)
  | 0, I, _ => rfl
  | f + 1, I, h => by
    rw [prm, prm, List.map_flatMap, List.length_map]
    unfold List.flatMap
    congr 1
    refine List.map_congr_left (fun i hi => ?_)
    rw [List.mem_range] at hi
    rw [map_erase, prm_map g d d2 f _ (erase_len h hi), List.map_map, List.map_map, getD_at d2 (by simpa using hi), getD_at d hi]
    simp [Function.comp_def]
/-- A list with k places at each end turned round. -/
def TurnedA {α : Type} (xs : List α) (k : Nat) (ys : List α) : Prop := ys.length = xs.length ∧ ∀ j (h : j < xs.length), ys[j]? = some (if j < k ∨ xs.length ≤ j + k then xs[xs.length - 1 - j] else xs[j])
theorem turnedA_start {α : Type} (xs : List α) : TurnedA xs 0 xs := ⟨rfl, fun j hj => by rw [if_neg (by omega)]; simp [hj]⟩
theorem turnedA_end {α : Type} {xs : List α} {k : Nat} {ys : List α} (h : TurnedA xs k ys) (hk : xs.length ≤ k + k + 1) : ys = xs.reverse := by
  apply List.ext_getElem?
  intro j
  by_cases hj : j < xs.length
  · rw [h.2 j hj, List.getElem?_reverse hj]
    split
    · simp [List.getElem?_eq_getElem (show xs.length - 1 - j < xs.length by omega)]
    · have : xs.length - 1 - j = j := by omega
      simp [this, hj]
  · rw [List.getElem?_eq_none (by rw [h.1]; omega), List.getElem?_eq_none (by simp; omega)]
theorem turnedA_step {α : Type} {xs : List α} {k b : Nat} {ys : List α} (h : TurnedA xs k ys) (hb : k + b + 1 = xs.length) (hkb : k < b) (hk : k < xs.length) (hb' : b < xs.length) :
    TurnedA xs (k + 1) ((ys.set k xs[b]).set b xs[k]) := by
  refine ⟨by simpa using h.1, fun j hj => ?_⟩
  have hl := h.1
  rcases Nat.lt_trichotomy j b with h1 | h1 | h1
  · rcases Nat.lt_trichotomy j k with h2 | h2 | h2
    · rw [List.getElem?_set_ne (by omega), List.getElem?_set_ne (by omega), h.2 j hj, if_pos (by omega), if_pos (by omega)]
    · subst h2
      have e : xs.length - 1 - j = b := by omega
      rw [List.getElem?_set_ne (by omega), List.getElem?_set_self (by omega), if_pos (by omega)]
      simp [e]
    · rw [List.getElem?_set_ne (by omega), List.getElem?_set_ne (by omega), h.2 j hj, if_neg (by omega), if_neg (by omega)]
  · subst h1
    have e : xs.length - 1 - j = k := by omega
    rw [List.getElem?_set_self (by simp; omega), if_pos (by omega)]
    simp [e]
  · rw [List.getElem?_set_ne (by omega), List.getElem?_set_ne (by omega), h.2 j hj, if_pos (by omega), if_pos (by omega)]
/-- What the call leaves: the next row, if there is one. -/
def nextP (p : List Nat) : List Nat := (nextI p).getD p
theorem nextI_none {p : List Nat} (h : descI p (p.length - 1) = none) : nextI p = none := by unfold nextI; rw [h]
theorem nextI_some {p : List Nat} {q : Nat} (h : descI p (p.length - 1) = some q) :
    nextI p = some ((swpI p q (lastI p (p.getD q 0) (p.length - 1))).take (q + 1) ++ ((swpI p q (lastI p (p.getD q 0) (p.length - 1))).drop (q + 1)).reverse) := by unfold nextI; rw [h]

end Go.Proofs.Ytgnopkemcgbedaa
