/- Chapter 3, the program: slices.SortFunc over a row of vessels of one's own. -/
import Derived.Test.YteeljlpbijmhlabSrtCmp
import Derived.Test.YteeljlpbijmhlabSrtLay
import Derived.Test.YteeljlpbijmhlabVesLig
import Derived.Sort.LotA
namespace Go.Proofs.Yteeljlpbijmhlab
open Go.RowKit Go.PlainAid Go.Sort Go.Shelf
set_option linter.unusedVariables false
set_option linter.unusedSimpArgs false

/-- A vessel with as many cells as a vessel may have. -/
abbrev CVes := {v : Ves // 0 ≤ v.len * v.wid ∧ v.len * v.wid ≤ 24}
instance : Inhabited CVes := ⟨⟨noVes, by decide, by decide⟩⟩
/-- The six cells of a vessel. -/
def encV (v : CVes) : List Value := flatV [v.1]
/-- The comparison that the program sorts by. -/
def cfV (x y : CVes) : Int := or3 (cmpI (y.1.len * y.1.wid) (x.1.len * x.1.wid)) (cmpI y.1.dr x.1.dr) (cmpI x.1.id y.1.id)
/-- x stands before y. -/
def Ahead (x y : Ves) : Prop := y.len * y.wid < x.len * x.wid ∨ x.len * x.wid = y.len * y.wid ∧ (y.dr < x.dr ∨ x.dr = y.dr ∧ x.id < y.id)
theorem cfV_neg (x y : CVes) : cfV x y < 0 ↔ Ahead x.1 y.1 := by
  unfold cfV or3 Ahead cmpI
  repeat' split
  all_goals omega
theorem ltV (x y : CVes) : ltOf cfV x y = true ↔ Ahead x.1 y.1 := by
  unfold ltOf
  rw [decide_eq_true_iff]
  exact cfV_neg x y
theorem ltV_no (x y : CVes) : ltOf cfV x y = false ↔ ¬ Ahead x.1 y.1 := by
  rw [← ltV]
  cases ltOf cfV x y <;> simp
theorem swoV : SWO (ltOf cfV) where
  irrefl x := by rw [ltV_no]; unfold Ahead; omega
  trans x y z h1 h2 := by rw [ltV] at *; unfold Ahead at *; omega
  ntrans x y z h1 h2 := by rw [ltV_no] at *; unfold Ahead at *; omega

theorem encV_len (x : CVes) : (encV x).length = 6 := rfl
theorem encV_one (x : CVes) : ∀ v ∈ encV x, v.oneCell' = true := flatV_one _
theorem flatV_get : ∀ (vs : List Ves) (t : Nat), t < 6 * vs.length → (flatV vs)[t]? = (flatV [vs.getD (t / 6) noVes])[t % 6]?
  | [], t, h => absurd h (by simp)
  | v :: l, t, h => by
    by_cases h6 : t < 6
    · rw [Nat.div_eq_of_lt h6, Nat.mod_eq_of_lt h6]
      rcases t with _ | _ | _ | _ | _ | _ | t
      · rfl
      · rfl
      · rfl
      · rfl
      · rfl
      · rfl
      · omega
    · obtain ⟨u, rfl⟩ : ∃ u, t = u + 6 := ⟨t - 6, by omega⟩
      have ih := flatV_get l u (by simp at h; omega)
      rw [show (u + 6) / 6 = u / 6 + 1 by omega, show (u + 6) % 6 = u % 6 by omega]
      exact ih
theorem flatK_V (d : Array CVes) : flatK encV 6 d = (flatV (d.toList.map (·.1))).toArray := by
  apply Array.ext
  · rw [size_flatK]; show d.size * 6 = (flatV _).length; rw [flatV_len]; simp; omega
  · intro t h1 h2
    rw [size_flatK] at h1
    have hk : t / 6 < d.size := by omega
    have hg := flatV_get (d.toList.map (·.1)) t (by simp; omega)
    have e1 := get_flatK encV 6 d t h1
    rw [getElem!_pos _ t (by rw [size_flatK]; exact h1)] at e1
    rw [e1, List.getElem_toArray]
    have e2 : (d.toList.map (·.1)).getD (t / 6) noVes = d[t / 6]!.1 := by
      rw [List.getD_eq_getElem?_getD, List.getElem?_map, Array.getElem?_toList, Array.getElem?_eq_getElem hk, getElem!_pos d _ hk]; rfl
    rw [e2] at hg
    have e3 : (encV d[t / 6]!)[t % 6]? = some (encV d[t / 6]!)[t % 6]! := by
      have hl : t % 6 < (encV d[t / 6]!).length := by rw [encV_len]; omega
      rw [List.getElem?_eq_getElem hl, getElem!_pos (encV d[t / 6]!) (t % 6) hl]
    have e4 : (flatV (d.toList.map (·.1)))[t]? = some (encV d[t / 6]!)[t % 6]! := hg.trans e3
    rw [List.getElem?_eq_getElem (by simpa using h2)] at e4
    exact (Option.some.inj e4).symm
/-- A row of vessels of one's own, as the sort wants it. -/
theorem holds_ofV {w : World} {base g n c : Nat} {d : Array CVes} {vs : List Ves} (hd : d.toList.map (·.1) = vs) (h : w.ownsRow base 38 6 (.slice (some ⟨g, 0, none⟩) n c) n (flatV vs)) : HoldsK encV 6 w g 0 d := by
  unfold HoldsK
  rw [flatK_V, hd]
  intro j hj
  have hj' : j < (flatV vs).length := by simpa using hj
  obtain ⟨a, e, -, hc⟩ := ownV_has h j (flatV vs)[j] (List.getElem?_eq_getElem hj')
  injection e with e
  subst e
  refine ⟨?_, ?_⟩
  · rw [show (⟨g, 0, none⟩ : Addr).add j = ⟨g, 0 + j, none⟩ from (by unfold Addr.add; split <;> simp_all)] at hc
    rw [hc, getElem!_pos _ j hj]
    simp
  · rcases h.2 with ⟨e, -⟩ | ⟨g', cap', cur, hv, -, hb, -⟩
    · cases e
    · cases hv
      simp only [World.frozen?, hb]
      simp
theorem has_ofV {w : World} {g : Nat} {d : Array CVes} (hg : g < w.heap.size) (h : HoldsK encV 6 w g 0 d) : Has w w.heap.size (some ⟨g, 0, none⟩) (flatV (d.toList.map (·.1))) := by
  unfold HoldsK at h
  rw [flatK_V] at h
  intro j u hu
  obtain ⟨hj, he⟩ := List.getElem?_eq_some_iff.1 hu
  have := (h j (by simpa using hj)).1
  refine ⟨_, rfl, hg, ?_⟩
  rw [show (⟨g, 0, none⟩ : Addr).add j = ⟨g, 0 + j, none⟩ from (by unfold Addr.add; split <;> simp_all), this, getElem!_pos _ j (by simpa using hj)]
  simp only [id, List.getElem_toArray, he]
theorem below_sortV {w : World} {g n : Nat} {os : Array Obj} (d : Array CVes) (hg : g < w.heap.size) : Go.RowKit.Below g w (sortWorldK encV 6 w g 0 n d os) := by
  unfold sortWorldK putRowK
  refine ⟨rfl, rfl, rfl, by simp, fun k hk => ?_⟩
  have hs : k < w.heap.size := by omega
  rw [heap_grow_old _ _ (by simpa using hs)]
  have : g ≠ k := by omega
  simp [putRow, mapBlock, Sort.ahead, Array.getElem?_modify, this]
/-- Below one's own size nothing but draws and new blocks. -/
theorem grow_ofBelow {w W : World} (h : BelowD w.heap.size w W) : ∃ q os, W = grow (w.drewN q) os := by
  refine ⟨W.drawn - w.drawn, W.heap.extract w.heap.size W.heap.size, ?_⟩
  have hd := h.d
  have hs := h.size
  obtain ⟨⟨h1, h2, h3, -, h5⟩, -⟩ := h
  obtain ⟨hp, tp, dr, os, ou⟩ := W
  obtain ⟨hp', tp', dr', os', ou'⟩ := w
  simp only at h1 h2 h3 h5 hd hs
  subst h1 h2 h3
  unfold grow World.drewN
  simp only [World.mk.injEq, and_true, true_and]
  refine ⟨?_, by omega⟩
  apply Array.ext_getElem?
  intro k
  by_cases hk : k < hp'.size
  · rw [h5 k hk, Array.getElem?_append_left hk]
  · rw [Array.getElem?_append_right (by omega), Array.getElem?_extract]
    split
    · congr 1; omega
    · rw [Array.getElem?_eq_none (by omega)]
end Go.Proofs.Yteeljlpbijmhlab
