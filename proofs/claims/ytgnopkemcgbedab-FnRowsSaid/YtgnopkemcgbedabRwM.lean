/- Chapter 7: the mathematics of FnRows; the first list that it draws. -/
import Derived.Test.YtgnopkemcgbedabRwA
import Derived.Test.YtgnopkemcgbedabRwB
import Derived.Test.YtgnopkemcgbedabDgK
namespace Go.Proofs.Ytgnopkemcgbedab
open Go.RowKit Go.PlainAid Go.Sort
set_option linter.unusedVariables false
set_option linter.unusedSimpArgs false

theorem rows_ex {vs : List TCargo} {L : List Int} {z : Int} {x : Bool} (h : ShortA vs L z x) (hg : gCs vs = true) :
    ∃ P : List TCargo, P.Perm vs ∧ L = P.map (·.x0) ∧ z = ext P ∧ z ≤ ext vs ∧ gCs P = true := by
  have hgg := (gCs_iff vs).1 hg
  obtain ⟨S, hS⟩ := asc_ex vs ((goodCs_iff vs).1 hgg).2.2
  obtain ⟨h1, h2, h3⟩ := short_best hgg hS
  obtain ⟨e1, e2⟩ := (h.1 hg).2 S hS
  exact ⟨_, h1, e1, e2.trans h2, by rw [e2]; exact h3 vs (List.Perm.refl _), gCs_yes (goodCs_perm hgg h1)⟩
/-- All answers lean on one question. -/
theorem rows_x {vs : List TCargo} {L : List Int} {z : Int} {x : Bool} (h : ShortA vs L z x) : x = gCs vs := by
  cases e : gCs vs with
  | true => exact (h.1 e).1
  | false => exact (h.2 e).2.2
theorem place_x {vs : List TCargo} {L : List Int} {x : Bool} (h : PlaceA vs L x) : x = gCs vs := by
  cases e : gCs vs with
  | true => exact (h.1 e).2
  | false => exact (h.2 e).2
theorem ext_x {vs : List TCargo} {z : Int} {x : Bool} (h : ExtA vs z x) : x = gCs vs := by
  cases e : gCs vs with
  | true => exact (h.1 e).2
  | false => exact (h.2 e).2
theorem placed_ok {vs : List TCargo} (hg : gCs vs = true) : okP vs (plc vs vs.length) := by
  have hgg := (gCs_iff vs).1 hg
  refine ⟨hg, plc_len vs _, fun z hz => ?_⟩
  obtain ⟨j, hj, e⟩ := List.getElem_of_mem hz
  have hj' : j < vs.length := by rw [plc_len] at hj; exact hj
  have := plc_bd (vs := vs) (k := vs.length) (fun i hi => good_at hgg hi) j hj'
  rw [List.getD_eq_getElem?_getD, List.getElem?_eq_getElem hj] at this
  have h6 := hgg.1
  change 0 ≤ (plc vs vs.length)[j] ∧ (plc vs vs.length)[j] ≤ _ at this
  rw [e] at this
  omega
/-- Placed vessels are safe, and no pair is not. -/
theorem placed_safe {vs : List TCargo} (hg : gCs vs = true) {L : List (Int × Int)} {x R y : Bool} (h : UnsA vs (plc vs vs.length) L x) (hs : SafeA vs (plc vs vs.length) R y) : L = [] ∧ x = true ∧ R = true ∧ y = true := by
  have hok := placed_ok hg
  obtain ⟨h1, rfl⟩ := h.1 hok
  obtain ⟨M, hM, rfl⟩ := hs
  obtain ⟨h2, rfl⟩ := hM.1 hok
  rw [placed_none h1, placed_none h2]
  exact ⟨rfl, rfl, rfl, rfl⟩
theorem safe_uns {vs : List TCargo} {cs : List Int} {L : List (Int × Int)} {x R y : Bool} (h : UnsA vs cs L x) (hs : SafeA vs cs R y) : y = x ∧ R = (x && decide (L.length = 0)) := by
  obtain ⟨M, hM, rfl⟩ := hs
  by_cases hk : okP vs cs
  · obtain ⟨h1, rfl⟩ := h.1 hk
    obtain ⟨h2, rfl⟩ := hM.1 hk
    rw [pairs_one h1 h2]
    exact ⟨rfl, rfl⟩
  · obtain ⟨rfl, rfl⟩ := h.2 hk
    obtain ⟨rfl, rfl⟩ := hM.2 hk
    exact ⟨rfl, rfl⟩
/-- Those of the first k that have this Id. -/
def pickR (vs : List TCargo) (d : Int) (k : Nat) : List TCargo := (vs.take k).filter fun v => v.x0 == d
theorem pickR_snoc {vs : List TCargo} {d : Int} {k : Nat} (h : k < vs.length) : pickR vs d (k + 1) = pickR vs d k ++ (if (vs.getD k noCargo).x0 = d then [vs.getD k noCargo] else []) := by
  unfold pickR
  rw [List.take_add_one, List.filter_append, List.getElem?_eq_getElem h, getCargo h]
  by_cases e : vs[k].x0 = d
  · simp [e]
  · simp [e]
theorem pickR_len (vs : List TCargo) (d : Int) (k : Nat) : (pickR vs d k).length ≤ k := by
  unfold pickR
  exact Nat.le_trans (List.length_filter_le _ _) (by rw [List.length_take]; omega)
theorem filter_one : ∀ (vs : List TCargo) (V : TCargo), (vs.Pairwise fun a b => a.x0 ≠ b.x0) → V ∈ vs → vs.filter (fun v => v.x0 == V.x0) = [V]
  | [], V, _, h => absurd h (by simp)
  | a :: t, V, hp, h => by
    obtain ⟨h1, h2⟩ := List.pairwise_cons.1 hp
    rcases List.mem_cons.1 h with rfl | h
    · rw [List.filter_cons_of_pos (by simp), List.filter_eq_nil_iff.2 (fun b hb => by have := h1 b hb; simp; omega)]
    · rw [List.filter_cons_of_neg (by have := h1 V h; simp; omega), filter_one t V h2 h]
theorem pickR_all {vs P : List TCargo} (hg : gCs vs = true) (hp : P.Perm vs) {i : Nat} (hi : i < P.length) : pickR vs (P.getD i noCargo).x0 vs.length = [P.getD i noCargo] := by
  unfold pickR
  rw [List.take_length, getCargo hi]
  exact filter_one vs _ ((goodCs_iff vs).1 ((gCs_iff vs).1 hg)).2.2 (hp.mem_iff.1 (List.getElem_mem hi))
theorem takeC_snoc {P : List TCargo} {i : Nat} (h : i < P.length) : P.take (i + 1) = P.take i ++ [P.getD i noCargo] := by
  rw [List.take_add_one, List.getElem?_eq_getElem h, getCargo h]; rfl
theorem has_on {W W' : World} {A : Option Addr} {xs : List Value} (h : Has W W.heap.size A xs) (hb : Below W.heap.size W W') : Has W' W'.heap.size A xs := (h.below hb).more hb.size
set_option maxHeartbeats 1000000 in
theorem drawR_any {w : World} {A : Option Addr} {n : Nat} {zs : List Int} {B : Nat} (c : Nat) (h : Code_ w A n zs B) :
    Calls Try.prog 25 #[.slice A n c] w (DrwK w) := by
  have H := Lib.hid (h.start c)
  have hbs := Lib.hid (fun w' (h : (w.alloc (.cells #[.slice A n c, .int .i64 0, .int .u64 0] 75)).grownBy w' (some w.heap.size)) => below_start h)
  have C := Lib.hid (cargos_at (h.start c) (by omega) 5 (by omega))
  clear h
  go_enter Try.func25, Try.ntmps25
  go_wp2_with fail
  refine C.out.mono ?_
  rintro e w1 ⟨g1, q, c1, rfl, hq, ho, hs⟩
  obtain ⟨hqc, vs, hvs⟩ := ho.is
  have HR := Lib.hid hvs
  have HB := Lib.hid (hbs.out _ hs.grown)
  clear hs ho hvs H C
  go_wp2_with fail
  refine bodyPost_ret (results_tmp rfl _ _ _) rfl ?_
  exact ⟨g1, c1, q, vs, rfl, hq, hqc, HR.out, HB.out⟩
end Go.Proofs.Ytgnopkemcgbedab
