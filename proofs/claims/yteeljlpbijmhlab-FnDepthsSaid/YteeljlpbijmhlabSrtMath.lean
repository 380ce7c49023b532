/- Chapter 3: a vessel put into an order. -/
import Derived.Test.YteeljlpbijmhlabSrtAhd
namespace Go.Proofs.Yteeljlpbijmhlab
open Go.RowKit Go.PlainAid Go.Sort

theorem ahead_tr {x y z : Ves} (h1 : Ahead x y) (h2 : Ahead y z) : Ahead x z := by unfold Ahead at *; omega
/-- The model's word is 'ahead' where the Id is the smaller one. -/
theorem ahd_yes {x y : Ves} (h : ahdB (x.len * x.wid) x.dr (y.len * y.wid) y.dr = true) (hi : x.id < y.id) : Ahead x y := by
  unfold ahdB at h
  unfold Ahead
  split at h
  · rw [decide_eq_true_iff] at h; omega
  · rw [decide_eq_true_iff] at h; omega
theorem ahd_no {x y : Ves} (h : ahdB (x.len * x.wid) x.dr (y.len * y.wid) y.dr = false) : ¬ Ahead x y := by
  unfold ahdB at h
  unfold Ahead
  split at h
  · rw [decide_eq_false_iff_not] at h; omega
  · rw [decide_eq_false_iff_not] at h; omega
theorem ins_perm (M : List Ves) (k : Nat) (v : Ves) : (M.take k ++ v :: M.drop k).Perm (M ++ [v]) :=
  (List.perm_middle).trans (by rw [List.take_append_drop]; exact (List.perm_append_singleton v M).symm)
theorem ins_ord {vs M : List Ves} {k i : Nat} (hi : i < vs.length) (h : InOrd (vs.take i) M) (hk : k ≤ M.length) (ha : ∀ j, k ≤ j → j < M.length → ¬ Ahead (M.getD j noVes) (vs.getD i noVes))
    (hb : k = 0 ∨ Ahead (M.getD (k - 1) noVes) (vs.getD i noVes)) : InOrd (vs.take (i + 1)) (M.take k ++ vs.getD i noVes :: M.drop k) := by
  refine ⟨?_, ?_⟩
  · rw [List.take_add_one, List.getElem?_eq_getElem hi, getV hi]
    exact (ins_perm M k _).trans (h.1.append_right _)
  · have hp := h.2
    have hs := List.pairwise_iff_getElem.1 hp
    rw [List.pairwise_append]
    refine ⟨hp.sublist (List.take_sublist _ _), ?_, ?_⟩
    · rw [List.pairwise_cons]
      refine ⟨?_, hp.sublist (List.drop_sublist _ _)⟩
      intro y hy
      obtain ⟨j, hj, rfl⟩ := List.mem_iff_getElem.1 hy
      rw [List.length_drop] at hj
      have := ha (k + j) (by omega) (by omega)
      rw [getV (by omega)] at this
      rwa [List.getElem_drop]
    · intro x hx y hy
      obtain ⟨a, hal, rfl⟩ := List.mem_iff_getElem.1 hx
      rw [List.length_take] at hal
      rw [List.getElem_take]
      rcases List.mem_cons.1 hy with rfl | hy
      · rcases hb with hb | hb
        · omega
        · rw [getV (show k - 1 < M.length by omega)] at hb
          intro hva
          rcases Nat.lt_or_ge a (k - 1) with hlt | hge
          · exact hs a (k - 1) (by omega) (by omega) hlt (ahead_tr hb hva)
          · have : a = k - 1 := by omega
            subst this
            unfold Ahead at hb hva; omega
      · obtain ⟨j, hj, rfl⟩ := List.mem_iff_getElem.1 hy
        rw [List.length_drop] at hj
        rw [List.getElem_drop]
        exact hs a (k + j) (by omega) (by omega) (by omega)
theorem inOrd_nil (vs : List Ves) : InOrd (vs.take 0) [] := ⟨by simp, List.Pairwise.nil⟩
theorem inOrd_len {vs M : List Ves} {i : Nat} (h : InOrd (vs.take i) M) (hi : i ≤ vs.length) : M.length = i := by
  rw [h.1.length_eq, List.length_take]; omega
/-- Where an ordered vessel lies in the fleet. -/
theorem inOrd_at {vs M : List Ves} {i j : Nat} (hg : gF vs = true) (h : InOrd (vs.take i) M) (hi : i < vs.length) (hj : j < M.length) :
    ∃ p, p < i ∧ vs.getD p noVes = M.getD j noVes ∧ fnd vs (M.getD j noVes).id vs.length = p ∧ (M.getD j noVes).id < (vs.getD i noVes).id := by
  have hm : M[j] ∈ vs.take i := h.1.mem_iff.1 (List.getElem_mem hj)
  obtain ⟨p, hp, he⟩ := List.mem_iff_getElem.1 hm
  rw [List.length_take] at hp
  rw [List.getElem_take] at he
  have hpl : p < vs.length := by omega
  have e1 : vs.getD p noVes = M.getD j noVes := by rw [getV hpl, getV hj, he]
  have hA := asc_of ((gF_iff vs).1 hg)
  refine ⟨p, by omega, e1, ?_, ?_⟩
  · have hf := fnd_hit (vs := vs) (t := (M.getD j noVes).id) (k := p) (fun q hq => by have := hA q p hq hpl; rw [e1] at this; omega) (by rw [e1]) (vs.length - (p + 1))
    rwa [show p + 1 + (vs.length - (p + 1)) = vs.length by omega] at hf
  · have := hA p i (by omega) hi
    rwa [e1] at this
end Go.Proofs.Yteeljlpbijmhlab
