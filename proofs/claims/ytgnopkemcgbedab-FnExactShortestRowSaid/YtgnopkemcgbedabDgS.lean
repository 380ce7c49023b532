/- Chapter 7: slices.SortFunc over a row of pairs of one's own. -/
import Derived.Test.YtgnopkemcgbedabDgT
import Derived.Test.YtgnopkemcgbedabSrtLayP
import Derived.Sort.LotA
namespace Go.Proofs.Ytgnopkemcgbedab
open Go.RowKit Go.PlainAid Go.Sort Go.Shelf
set_option linter.unusedVariables false
set_option linter.unusedSimpArgs false

theorem take_put {α : Type} [Inhabited α] (enc : α → Value) (cur : Array Value) (d : Array α) (h : d.size ≤ cur.size) : (putCells enc 0 d cur).toList.take d.size = d.toList.map enc := by
  apply List.ext_getElem?
  intro j
  by_cases hj : j < d.size
  · rw [List.getElem?_take_of_lt hj, Array.getElem?_toList]
    simp [putCells, hj, show j < cur.size by omega]
  · rw [List.getElem?_take_eq_none (by omega), List.getElem?_eq_none (by simp; omega)]
/-- Behind the sort the same slice owns what it holds then. -/
theorem own_put {α : Type} [Inhabited α] (enc : α → Value) {w : World} {base g c n z : Nat} {e : TypeId} {xs : List Value} (h : w.ownsRow base e z (.slice (some ⟨g, 0, none⟩) n c) n xs) (d : Array α) (hd : d.size = n * z) (m : Nat) (os : Array Obj) :
    (grow (putRow enc (Go.Sort.ahead w m) g 0 d) os).ownsRow base e z (.slice (some ⟨g, 0, none⟩) n c) n (d.toList.map enc) := by
  have hg := (h.lt g rfl).2
  refine ⟨by simp [hd], .inr ?_⟩
  rcases h.2 with ⟨e1, -⟩ | ⟨g', cap, cur, hv, hb, hbk, h1, h2, h3, -⟩
  · cases e1
  · cases hv
    refine ⟨g, c, putCells enc 0 d cur, rfl, hb, ?_, h1, h2, by simp [putCells, h3], ?_⟩
    · rw [heap_grow_old _ _ (by simpa [putRow, mapBlock, Go.Sort.ahead] using hg)]
      simp [putRow, mapBlock, Go.Sort.ahead, Array.getElem?_modify, hbk, onCells]
    · rw [← hd]
      exact take_put enc cur d (by rw [h3, hd]; exact Nat.mul_le_mul_right _ h1)
theorem grown_put {α : Type} [Inhabited α] (enc : α → Value) (w : World) (g m : Nat) (d : Array α) (os : Array Obj) : w.grownBy (grow (putRow enc (Go.Sort.ahead w m) g 0 d) os) (some g) := by
  refine ⟨rfl, rfl, rfl, by simp [putRow, mapBlock, Go.Sort.ahead], fun k hk hne => ?_⟩
  rw [heap_grow_old _ _ (by simpa [putRow, mapBlock, Go.Sort.ahead] using hk)]
  have : g ≠ k := fun e => hne (by rw [e])
  simp [putRow, mapBlock, Go.Sort.ahead, Array.getElem?_modify, this]
theorem swoP {α : Type} (f : α → Int × Int) : SWO (fun x y : α => decide (ltP (f x) (f y))) where
  irrefl x := by simp only [decide_eq_false_iff_not]; unfold ltP; omega
  trans x y z h1 h2 := by simp only [decide_eq_true_eq] at *; unfold ltP at *; omega
  ntrans x y z h1 h2 := by simp only [decide_eq_false_iff_not] at *; unfold ltP at *; omega
/-- A pair that lies in w, not in block g. -/
abbrev CPr (w : World) (g : Nat) := {p : TPr // p.g ≠ g ∧ BoxI w p.g p.x p.y}
def cfPr {w : World} {g : Nat} (x y : CPr w g) : Int := cmp2 x.1.x x.1.y y.1.x y.1.y
theorem ltPr {w : World} {g : Nat} : ltOf (cfPr (w := w) (g := g)) = fun x y => decide (ltP (x.1.x, x.1.y) (y.1.x, y.1.y)) := by
  funext x y
  unfold ltOf cfPr
  rw [decide_eq_decide]
  exact cmp2_neg _ _ _ _
theorem lift_Pr {w : World} {g : Nat} : ∀ (M : List TPr), (∀ p ∈ M, p.g ≠ g ∧ BoxI w p.g p.x p.y) → ∃ l : List (CPr w g), l.map (·.1) = M
  | [], _ => ⟨[], rfl⟩
  | p :: t, h => by
    obtain ⟨l, hl⟩ := lift_Pr t (fun u hu => h u (List.mem_cons_of_mem _ hu))
    exact ⟨⟨p, h p List.mem_cons_self⟩ :: l, congrArg (p :: ·) hl⟩
set_option maxHeartbeats 1000000 in
/-- Nothing to sort. -/
theorem cmp0_any (w : World) : Calls Try.prog 81 #[.slice none 0 0, .slice none 0 0] w fun e w' => e = .returned (.int .i64 0) ∧ w = w' := by
  go_enter Try.func81, Try.ntmps81
  go_wp2_with fail
  go_loop [11] (fun i => i = .int .i64 0) (fun i => 0)
  case atStart => rfl
  case round =>
    subst hrel
    go_wp2_with fail
    go_ret
    exact ⟨rfl, rfl⟩
theorem grow_same (w : World) : ∃ q os, w = grow (w.drewN q) os := ⟨0, #[], by simp [grow, World.drewN]⟩
theorem sortP_any {w : World} {base g c n : Nat} {M : List TPr} (hn : M.length = n) (hm : n ≤ 1000) (hown : w.ownsRow base 25 1 (.slice (some ⟨g, 0, none⟩) n c) n (M.map valPr)) (hea : EachPr base w M) :
    Calls Try.prog 80 #[.slice (some ⟨g, 0, none⟩) n c, .func (.func 81) #[] #[]] w fun e w' =>
      e = .returned (.tuple #[]) ∧ ∃ N : List TPr, N.Perm M ∧ ordP (numsPr N) ∧ w'.ownsRow base 25 1 (.slice (some ⟨g, 0, none⟩) n c) n (N.map valPr) ∧ w.grownBy w' (some g) := by
  have hlt := (hown.lt g rfl).2
  have eg : ∀ args w, (callFunc 81 args).run Try.prog w = .ok (.enter 81 args) w := enters_of Try.func81 (by kernel_rfl) rfl
  have hfz : ∀ j, w.frozen? ⟨g, 0 + j, none⟩ = false := fun j => by rw [Nat.zero_add]; exact hown.frozenAt j
  rcases Nat.eq_zero_or_pos n with h0 | h0
  · obtain rfl := List.eq_nil_of_length_eq_zero (by omega : M.length = 0)
    subst h0
    have hcon := Any.slices_SortFunc Try.sortP (fun _ : Unit => Value.slice none 0 0) (fun _ => rfl) (fun _ _ => 0) (show SWO (ltOf (fun _ _ : Unit => (0 : Int))) from ⟨fun _ => rfl, (fun _ _ _ h _ => absurd h (by simp [ltOf])), fun _ _ _ _ _ => rfl⟩) 81 #[] g 0 c #[] w eg
      (fun m os dk _ x y => (cmp0_any _).mono fun _ _ h => ⟨h.1, by rw [← h.2]; exact grow_same _⟩) (fun j hj => absurd hj (by simp)) hlt (by simp)
    refine Calls.mono hcon ?_
    rintro e w' ⟨rfl, d', k, os, hp, hs, rfl⟩
    refine ⟨rfl, [], List.Perm.refl _, List.Pairwise.nil, ?_, grown_put _ w g k d' os⟩
    have hd0 : d'.size = 0 := hp.1
    have := own_put (fun _ : Unit => Value.slice none 0 0) hown d' (by omega) k os
    rwa [show d'.toList = [] from List.eq_nil_of_length_eq_zero (by simpa using hd0)] at this
  · obtain ⟨l, hl⟩ := lift_Pr (w := w) (g := g) M (fun p hp => ⟨(hea.box p hp).2.ne hown (by decide), (hea.box p hp).2⟩)
    have hll : l.length = n := by rw [← hn, ← hl]; simp
    have hne : Nonempty (CPr w g) := by
      cases l with
      | nil => simp at hll; omega
      | cons x _ => exact ⟨x⟩
    letI : Inhabited (CPr w g) := ⟨Classical.choice hne⟩
    have hsz : l.toArray.size = n := by simpa using hll
    have hH : Holds (fun p : CPr w g => valPr p.1) w g 0 l.toArray := fun j hj => by
      refine ⟨?_, hfz j⟩
      have hj' : j < n := by rw [← hsz]; exact hj
      have hjl : j < l.length := by omega
      rw [Nat.zero_add, ownPr_cell hown hj', getElem!_pos _ j hj, getPr (by omega)]
      have : M[j]'(by omega) = l[j].1 := by simp [← hl]
      rw [this]
      simp
    have hcon := Any.slices_SortFunc Try.sortP (fun p : CPr w g => valPr p.1) (fun _ => rfl) cfPr (by rw [ltPr]; exact swoP (fun p : CPr w g => (p.1.x, p.1.y))) 81 #[] g 0 c l.toArray w eg
      (fun m os dk _ x y => by
        have hkeep : ∀ p : CPr w g, BoxI (sortWorld (fun p : CPr w g => valPr p.1) w g 0 m dk os) p.1.g p.1.x p.1.y := fun p => p.2.2.kept (grown_put _ w g m dk os) (fun e => p.2.1 (Option.some.inj e))
        exact (cmp2_any x.1.g y.1.g x.1.x x.1.y y.1.x y.1.y _ (hkeep x) (hkeep y)).mono fun _ _ h => ⟨h.1, by rw [← h.2]; exact grow_same _⟩) hH hlt (by omega)
    rw [hsz] at hcon
    refine Calls.mono hcon ?_
    rintro e w' ⟨rfl, d', k, os, hp, hs, rfl⟩
    have hd' : d'.size = n := by rw [hp.1, hsz]
    refine ⟨rfl, d'.toList.map (·.1), ?_, ?_, ?_, grown_put _ w g k d' os⟩
    · obtain ⟨hps, -, hpp⟩ := hp
      rw [← hl]
      rw [← hsz, show d'.extract 0 l.toArray.size = d' from by rw [← hps]; exact Array.extract_size, Array.extract_size] at hpp
      exact hpp.map _
    · unfold ordP numsPr
      rw [List.map_map, List.pairwise_map, List.pairwise_iff_getElem]
      intro i j hi hj hij
      have hi' : i < d'.size := by simpa using hi
      have hj' : j < d'.size := by simpa using hj
      have h5 := hs i j (Nat.zero_le _) hij (by omega)
      rw [ltPr, getElem!_pos d' j hj', getElem!_pos d' i hi'] at h5
      simpa using h5
    · have := own_put (fun p : CPr w g => valPr p.1) hown d' (by omega) k os
      rwa [List.map_map]
end Go.Proofs.Ytgnopkemcgbedab
