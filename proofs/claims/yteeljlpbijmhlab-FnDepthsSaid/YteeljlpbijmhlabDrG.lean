/- What FnDepths asks of orders, in one word each; the mathematics of it. -/
import Derived.Test.YteeljlpbijmhlabDrF
import Derived.Test.YteeljlpbijmhlabSrtImp
import Derived.Test.YteeljlpbijmhlabSrtSpec
namespace Go.Proofs.Yteeljlpbijmhlab
open Go.RowKit Go.PlainAid Go.Sort
set_option linter.unusedVariables false
set_option linter.unusedSimpArgs false

theorem ordI_any {w : World} {B : Nat} {a : Addr} {n : Nat} {vs : List Ves} (c : Nat) (h : IsVs w B (some a) n vs) (hm : n ≤ maxLen) (hc : n ≤ c) (L : List Int) (x : Bool) (Ln : Nat) (hLn : L.length = Ln) (hO : Ordered vs L x) :
    Calls Try.prog 17 #[.slice (some a) n c] w (AnsZ w Ln L x) :=
  (implOrd_any c h hm hc L x hO).mono fun _ _ k => ansZ_of hLn k
theorem ordS_any {w : World} {B : Nat} {a : Addr} {n : Nat} {vs : List Ves} (c : Nat) (h : IsVs w B (some a) n vs) (hm : n ≤ maxLen) (L : List Int) (x : Bool) (Ln : Nat) (hLn : L.length = Ln) (hO : Ordered vs L x) :
    Calls Try.prog 18 #[.slice (some a) n c] w (AnsZ w Ln L x) :=
  (specOrd_any c h hm L x hO).mono fun _ _ k => ansZ_of hLn k
/-- In an order the cells never become more. -/
theorem ord_cells {vs : List Ves} {L : List Int} {x : Bool} (h : Ordered vs L x) : ∃ C : Nat → Int, (∀ i j, i ≤ j → j < L.length → C j ≤ C i) ∧ (∀ i, i < L.length → C i ≤ 100) ∧
    (∀ i k, i < L.length → k < vs.length → (vs.getD k noVes).id = L.getD i 0 → 0 ≤ (vs.getD k noVes).len * (vs.getD k noVes).wid ∧ (vs.getD k noVes).len * (vs.getD k noVes).wid ≤ 24 ∧ (vs.getD k noVes).len * (vs.getD k noVes).wid = C i) ∧ (x = true → L.length = vs.length) ∧ (x = false → L.length = 0) := by
  cases hg : gF vs with
  | false =>
    obtain ⟨rfl, rfl⟩ := h.2 hg
    exact ⟨fun _ => 0, by simp, by simp, by simp, by simp, by simp⟩
  | true =>
    have hgood := (gF_iff vs).1 hg
    have hcb : ∀ v ∈ vs, 0 ≤ v.len * v.wid ∧ v.len * v.wid ≤ 24 := by
      intro v hv
      obtain ⟨i, hi, rfl⟩ := List.mem_iff_getElem.1 hv
      have := (hgood.2 i hi).1
      rw [getV hi] at this
      exact cell_bd this
    obtain ⟨M, hM⟩ := ord_ex vs hcb
    obtain ⟨rfl, hL⟩ := h.1 hg
    obtain rfl := hL M hM
    have hlen : (M.map (·.id)).length = vs.length := by rw [List.length_map]; exact hM.1.length_eq
    refine ⟨fun i => (M.getD i noVes).len * (M.getD i noVes).wid, ?_, ?_, ?_, fun _ => hlen, by simp⟩
    · intro i j hij hj
      rw [List.length_map] at hj
      rcases Nat.lt_or_eq_of_le hij with h1 | rfl
      · have hp := List.pairwise_iff_getElem.1 hM.2 i j (by omega) hj h1
        show (M.getD j noVes).len * (M.getD j noVes).wid ≤ (M.getD i noVes).len * (M.getD i noVes).wid
        rw [getV hj, getV (show i < M.length by omega)]
        unfold Ahead at hp
        omega
      · exact Int.le_refl _
    · intro i hi
      rw [List.length_map] at hi
      show (M.getD i noVes).len * (M.getD i noVes).wid ≤ 100
      rw [getV hi]
      have := hcb M[i] (hM.1.mem_iff.1 (List.getElem_mem hi))
      omega
    · intro i k hi hk e
      rw [List.length_map] at hi
      have h1 : vs.getD k noVes ∈ vs := by rw [getV hk]; exact List.getElem_mem hk
      have h2 : M.getD i noVes ∈ vs := by rw [getV hi]; exact hM.1.mem_iff.1 (List.getElem_mem hi)
      have e2 : (M.map (·.id)).getD i 0 = (M.getD i noVes).id := by
        rw [getV hi, List.getD_eq_getElem?_getD, List.getElem?_map, List.getElem?_eq_getElem hi]
        rfl
      rw [e2] at e
      have := idV_one hg h1 h2 e
      obtain ⟨h3, h4⟩ := hcb _ h1
      exact ⟨h3, h4, by rw [this]⟩
end Go.Proofs.Yteeljlpbijmhlab
