/- Chapter 3: the order of a fleet. -/
import Derived.Test.YteeljlpbijmhlabSrtFn
namespace Go.Proofs.Yteeljlpbijmhlab
open Go.RowKit Go.PlainAid Go.Sort Go.Shelf

/-- M is the fleet in its order. -/
def InOrd (vs M : List Ves) : Prop := M.Perm vs ∧ M.Pairwise (fun x y => ¬ Ahead y x)
theorem idV_one {vs : List Ves} (hg : gF vs = true) {a b : Ves} (ha : a ∈ vs) (hb : b ∈ vs) (h : a.id = b.id) : a = b := by
  obtain ⟨i, hi, rfl⟩ := List.mem_iff_getElem.1 ha
  obtain ⟨j, hj, rfl⟩ := List.mem_iff_getElem.1 hb
  have := fleet_one (vs := vs) rfl hg hi hj (by rw [getV hi, getV hj]; exact h)
  subst this
  rfl
theorem inOrd_one {vs M N : List Ves} (hg : gF vs = true) (h : InOrd vs M) (k : InOrd vs N) : M = N := by
  refine List.Perm.eq_of_pairwise (le := fun x y => ¬ Ahead y x) ?_ h.2 k.2 (h.1.trans k.1.symm)
  intro a b ha hb h1 h2
  refine idV_one hg (h.1.mem_iff.1 ha) (k.1.mem_iff.1 hb) ?_
  unfold Ahead at h1 h2
  omega
/-- What both must answer. -/
def Ordered (vs : List Ves) (L : List Int) (x : Bool) : Prop := (gF vs = true → x = true ∧ ∀ M, InOrd vs M → L = M.map (·.id)) ∧ (gF vs = false → L = [] ∧ x = false)
theorem ord_ex (vs : List Ves) (hb : ∀ v ∈ vs, 0 ≤ v.len * v.wid ∧ v.len * v.wid ≤ 24) : ∃ M, InOrd vs M := by
  obtain ⟨l, hl⟩ := lift_V vs hb
  have hS := swoV
  refine ⟨(l.mergeSort (fun x y => !(ltOf cfV) y x)).map (·.1), ?_, ?_⟩
  · rw [← hl]; exact (List.mergeSort_perm _ _).map _
  · rw [List.pairwise_map]
    refine (List.pairwise_mergeSort (le := fun x y => !(ltOf cfV) y x) ?_ ?_ l).imp ?_
    · intro a b c h1 h2
      simp only [Bool.not_eq_true'] at h1 h2 ⊢
      exact hS.ntrans _ _ _ h2 h1
    · intro a b
      simp only [Bool.or_eq_true, Bool.not_eq_true']
      cases h : ltOf cfV b a with
      | false => exact .inl rfl
      | true =>
        refine .inr ?_
        rw [ltV_no]
        rw [ltV] at h
        unfold Ahead at *
        omega
    · intro a b h
      rw [Bool.not_eq_true'] at h
      exact (ltV_no _ _).1 h
theorem boundsF {vs : List Ves} (hg : goodF vs) : ∀ v ∈ vs, 0 ≤ v.len * v.wid ∧ v.len * v.wid ≤ 24 := by
  intro v hv
  obtain ⟨i, hi, rfl⟩ := List.mem_iff_getElem.1 hv
  have := cell_bd (hg.2 i hi).1
  rwa [getV hi] at this
theorem ord_two (vs : List Ves) : ∃ (L : List Int) (x : Bool), L.length ≤ 8 ∧ Ordered vs L x := by
  by_cases h : gF vs = true
  · obtain ⟨M, hM⟩ := ord_ex vs (boundsF ((gF_iff vs).1 h))
    refine ⟨M.map (·.id), true, ?_, fun _ => ⟨rfl, fun N hN => by rw [inOrd_one h hM hN]⟩, fun e => absurd h (by rw [e]; simp)⟩
    rw [List.length_map, hM.1.length_eq]
    exact ((gF_iff vs).1 h).1
  · have h' : gF vs = false := by cases e : gF vs with | false => rfl | true => exact absurd e h
    exact ⟨[], false, by simp, fun e => absurd e h, fun _ => ⟨rfl, rfl⟩⟩
end Go.Proofs.Yteeljlpbijmhlab
