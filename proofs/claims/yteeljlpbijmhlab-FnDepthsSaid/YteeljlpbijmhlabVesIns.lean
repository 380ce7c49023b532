/- Chapter 3: a vessel inserted into a list, as plain words. -/
import Derived.Test.YteeljlpbijmhlabVesLig
namespace Go.Proofs.Yteeljlpbijmhlab
open Go.RowKit Go.PlainAid Go.Sort

/-- The vessel v inserted at p. -/
def ins (vs : List Ves) (p : Nat) (v : Ves) : List Ves := vs.take p ++ v :: vs.drop p
theorem ins_len {vs : List Ves} {p : Nat} {v : Ves} (h : p ≤ vs.length) : (ins vs p v).length = vs.length + 1 := by
  unfold ins
  rw [List.length_append, List.length_cons, List.length_take, List.length_drop]
  omega
theorem ins_at {vs : List Ves} {p : Nat} {v : Ves} (h : p ≤ vs.length) : (ins vs p v).getD p noVes = v := by
  unfold ins
  rw [List.getD_eq_getElem?_getD, List.getElem?_append_right (by rw [List.length_take]; omega), List.length_take, Nat.min_eq_left h]
  simp
theorem ins_lo {vs : List Ves} {p : Nat} {v : Ves} (h : p ≤ vs.length) {j : Nat} (hj : j < p) : (ins vs p v).getD j noVes = vs.getD j noVes := by
  unfold ins
  rw [List.getD_eq_getElem?_getD, List.getElem?_append_left (by rw [List.length_take]; omega), List.getElem?_take, if_pos hj, ← List.getD_eq_getElem?_getD]
theorem ins_hi {vs : List Ves} {p : Nat} {v : Ves} (h : p ≤ vs.length) {j : Nat} (hj : p ≤ j) : (ins vs p v).getD (j + 1) noVes = vs.getD j noVes := by
  unfold ins
  rw [List.getD_eq_getElem?_getD, List.getElem?_append_right (by rw [List.length_take]; omega), List.length_take, Nat.min_eq_left h]
  rw [show j + 1 - p = (j - p) + 1 by omega, List.getElem?_cons_succ, List.getElem?_drop, show p + (j - p) = j by omega, ← List.getD_eq_getElem?_getD]
/-- Where the vessel at j has gone. -/
def gone (p j : Nat) : Nat := if j < p then j else j + 1
theorem ins_gone {vs : List Ves} {p : Nat} {v : Ves} (h : p ≤ vs.length) (j : Nat) : (ins vs p v).getD (gone p j) noVes = vs.getD j noVes := by
  unfold gone
  split
  · next hj => exact ins_lo h hj
  · next hj => exact ins_hi h (by omega)
theorem gone_lt {p i j : Nat} (h : i < j) : gone p i < gone p j := by
  unfold gone
  split <;> split <;> omega
theorem gone_le {p j n : Nat} (h : j < n) : gone p j < n + 1 := by
  unfold gone
  split <;> omega
theorem ins_asc {vs : List Ves} {p : Nat} {v : Ves} (h : p ≤ vs.length) (hg : goodF (ins vs p v)) : Asc vs ∧ (∀ j, j < p → (vs.getD j noVes).id < v.id) ∧ (∀ j, p ≤ j → j < vs.length → v.id < (vs.getD j noVes).id) := by
  have ha := asc_of hg
  have hl := ins_len (v := v) h
  refine ⟨fun i j hij hj => ?_, fun j hj => ?_, fun j hp hj => ?_⟩
  · have := ha (gone p i) (gone p j) (gone_lt hij) (by rw [hl]; exact gone_le hj)
    rwa [ins_gone h, ins_gone h] at this
  · have := ha j p hj (by omega)
    rwa [ins_lo h hj, ins_at h] at this
  · have := ha p (j + 1) (by omega) (by omega)
    rwa [ins_hi h hp, ins_at h] at this
theorem ins_fleet {vs : List Ves} {p : Nat} {v : Ves} (h : p ≤ vs.length) (hg : goodF (ins vs p v)) : goodF vs := by
  have hl := ins_len (v := v) h
  refine ⟨by have := hg.1; omega, fun j hj => ?_⟩
  have h1 := hg.2 (gone p j) (by rw [hl]; exact gone_le hj)
  refine ⟨by have := h1.1; rwa [ins_gone h] at this, fun h0 => (ins_asc h hg).1 (j - 1) j (by omega) hj, fun i hi => ?_⟩
  have := h1.2.2 (gone p i) (gone_lt hi)
  rwa [ins_gone h, ins_gone h] at this
/-- What AddVessel answers. -/
structure Added (vs : List Ves) (v : Ves) (L : List Ves) (x : Bool) : Prop where
  yes : ∀ p, p ≤ vs.length → gF (ins vs p v) = true → L = ins vs p v ∧ x = true
  no : (∀ p, p ≤ vs.length → gF (ins vs p v) = false) → L = [] ∧ x = false
theorem ins_one {vs : List Ves} {v : Ves} {p p' : Nat} (h : p ≤ vs.length) (h' : p' ≤ vs.length) (g : gF (ins vs p v) = true) (hs : (∀ j, j < p' → (vs.getD j noVes).id < v.id) ∧ (∀ j, p' ≤ j → j < vs.length → v.id ≤ (vs.getD j noVes).id)) : p = p' := by
  obtain ⟨-, h1, h2⟩ := ins_asc h ((gF_iff _).1 g)
  rcases Nat.lt_trichotomy p p' with e | e | e
  · have := h2 p (Nat.le_refl _) (by omega)
    have := hs.1 p e
    omega
  · exact e
  · have := h1 p' e
    have := hs.2 p' (Nat.le_refl _) (by omega)
    omega
/-- The place found is the only one that may do. -/
theorem Added.at {vs : List Ves} {v : Ves} {L : List Ves} {x : Bool} (h : Added vs v L x) {p : Nat} (hp : p ≤ vs.length) (hs : Asc vs → (∀ j, j < p → (vs.getD j noVes).id < v.id) ∧ (∀ j, p ≤ j → j < vs.length → v.id ≤ (vs.getD j noVes).id)) (g : gF (ins vs p v) = false) : L = [] ∧ x = false :=
  h.no (fun p' hp' => by
    cases e : gF (ins vs p' v) with
    | false => rfl
    | true =>
      obtain rfl := ins_one hp' hp e (hs (ins_asc hp' ((gF_iff _).1 e)).1)
      rw [g] at e
      cases e)
theorem Added.bad {vs : List Ves} {v : Ves} {L : List Ves} {x : Bool} (h : Added vs v L x) (g : gF vs = false) : L = [] ∧ x = false :=
  h.no (fun p hp => by
    cases e : gF (ins vs p v) with
    | false => rfl
    | true =>
      rw [gF_yes (ins_fleet hp ((gF_iff _).1 e))] at g
      cases g)
theorem ins_names {vs : List Ves} {p : Nat} {v : Ves} (h : ∀ u ∈ vs, u.name.size ≤ maxLen) (hv : v.name.size ≤ maxLen) : ∀ u ∈ ins vs p v, u.name.size ≤ maxLen := by
  intro u hu
  unfold ins at hu
  rcases List.mem_append.1 hu with h1 | h1
  · exact h u (List.mem_of_mem_take h1)
  · rcases List.mem_cons.1 h1 with h2 | h2
    · rw [h2]; exact hv
    · exact h u (List.mem_of_mem_drop h2)
open Classical in
theorem added_ex (vs : List Ves) (v : Ves) : ∃ (L : List Ves) (x : Bool), L.length ≤ 9 ∧ Added vs v L x := by
  by_cases h : ∃ p, p ≤ vs.length ∧ gF (ins vs p v) = true
  · obtain ⟨p, hp, hg⟩ := h
    refine ⟨ins vs p v, true, by have := ((gF_iff _).1 hg).1; omega, fun p' hp' hg' => ?_, fun g => ?_⟩
    · obtain ⟨-, h1, h2⟩ := ins_asc hp' ((gF_iff _).1 hg')
      obtain rfl := ins_one hp hp' hg ⟨h1, fun j a b => by have := h2 j a b; omega⟩
      exact ⟨rfl, rfl⟩
    · rw [g p hp] at hg; cases hg
  · refine ⟨[], false, by simp, fun p hp hg => absurd ⟨p, hp, hg⟩ h, fun _ => ⟨rfl, rfl⟩⟩
theorem ins_flat (vs : List Ves) (p : Nat) (v : Ves) : flatV (vs.take p) ++ (flatV [v] ++ flatV (vs.drop p)) = flatV (ins vs p v) := by
  unfold ins
  rw [flatV_append]
  rfl
theorem Has.front {w : World} {B : Nat} {A : Option Addr} {xs ys : List Value} (h : Has w B A (xs ++ ys)) : Has w B A xs := by
  intro k u hu
  exact h k u (by rw [List.getElem?_append_left (List.getElem?_eq_some_iff.1 hu).1]; exact hu)
theorem Has.back {w : World} {B : Nat} {a : Addr} {xs ys : List Value} (h : Has w B (some a) (xs ++ ys)) : Has w B (some (a.add xs.length)) ys := by
  intro k u hu
  obtain ⟨a', e, hb, hc⟩ := h (xs.length + k) u (by rw [List.getElem?_append_right (by omega), Nat.add_sub_cancel_left]; exact hu)
  injection e with e
  subst e
  exact ⟨_, rfl, by rw [addBlock]; exact hb, by rw [Go.Deep.add_add]; exact hc⟩
theorem flatV_split (vs : List Ves) (p : Nat) : flatV vs = flatV (vs.take p) ++ flatV (vs.drop p) := by
  rw [← flatV_append, List.take_append_drop]
end Go.Proofs.Yteeljlpbijmhlab
