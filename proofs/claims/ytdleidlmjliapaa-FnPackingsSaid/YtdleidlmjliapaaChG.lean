/- Chapter 4's model, further: what lies there as a packing, covered cells, groups, lockages in order. -/
import Derived.Test.YtdleidlmjliapaaChE
namespace Go.Proofs.Ytdleidlmjliapaa
open Go.RowKit Go.PlainAid

/-- What lies there, as a packing of the first hulls. -/
theorem pack_lies {c : TChamber} : ∀ (done : List (THull × TSpot)) (hs t : List THull), hs = (done.map Prod.fst).reverse ++ t → (pack c hs (done.map Prod.snd).reverse ↔ lies c done)
  | [], hs, t, _ => ⟨fun _ => trivial, fun _ i hi => absurd hi (by simp)⟩
  | p :: d, hs, t, he => by
    have ih := pack_lies (c := c) d hs (p.1 :: t) (by rw [he]; simp)
    have hl : (d.map Prod.snd).reverse.length = d.length := by simp
    have hss : ((p :: d).map Prod.snd).reverse = (d.map Prod.snd).reverse ++ [p.2] := by simp
    rw [hss]
    generalize hS : (d.map Prod.snd).reverse = S at ih hl ⊢
    have hat : ∀ i, i < d.length → (S ++ [p.2]).getD i noSpot = S.getD i noSpot := fun i hi => by
      rw [List.getD_eq_getElem?_getD, List.getD_eq_getElem?_getD, List.getElem?_append_left (by omega)]
    have hlast : (S ++ [p.2]).getD d.length noSpot = p.2 := by
      rw [List.getD_eq_getElem?_getD, List.getElem?_append_right (by omega), hl]; simp
    have hh : hs.getD d.length noHull = p.1 := by
      rw [he, List.getD_eq_getElem?_getD]; simp
    have hg : ∀ k, k < d.length → (hs.getD k noHull, S.getD k noSpot) = d.reverse.getD k (noHull, noSpot) := fun k hk => by
      have e1 : hs.getD k noHull = (d.reverse.getD k (noHull, noSpot)).1 := by
        rw [he, List.getD_eq_getElem?_getD, List.getD_eq_getElem?_getD, List.map_cons, List.reverse_cons, List.append_assoc, List.getElem?_append_left (by simp; omega), ← List.map_reverse, List.getElem?_map]
        cases d.reverse[k]? <;> rfl
      have e2 : S.getD k noSpot = (d.reverse.getD k (noHull, noSpot)).2 := by
        rw [← hS, List.getD_eq_getElem?_getD, List.getD_eq_getElem?_getD, ← List.map_reverse, List.getElem?_map]
        cases d.reverse[k]? <;> rfl
      rw [e1, e2]
    have hfree : (∀ k, k < d.length → ¬ meet p.1 p.2 (hs.getD k noHull) (S.getD k noSpot)) ↔ ∀ q ∈ d, ¬ meet p.1 p.2 q.1 q.2 := by
      constructor
      · intro h q hq
        obtain ⟨k, hk, rfl⟩ := List.mem_iff_getElem.1 (List.mem_reverse.2 hq)
        have hk' : k < d.length := by simpa using hk
        have e := hg k hk'
        rw [List.getD_eq_getElem?_getD (l := d.reverse), List.getElem?_eq_getElem hk] at e
        have := h k hk'
        have e1 := congrArg Prod.fst e
        have e2 := congrArg Prod.snd e
        dsimp only [Option.getD_some] at e1 e2
        rwa [e1, e2] at this
      · intro h k hk
        have hk' : k < d.reverse.length := by simpa using hk
        have e := hg k hk
        rw [List.getD_eq_getElem?_getD (l := d.reverse), List.getElem?_eq_getElem hk'] at e
        have e1 := congrArg Prod.fst e
        have e2 := congrArg Prod.snd e
        dsimp only [Option.getD_some] at e1 e2
        rw [e1, e2]
        exact h _ (List.mem_reverse.1 (List.getElem_mem hk'))
    constructor
    · intro h
      have h1 := h d.length (by simp; omega)
      unfold okP at h1
      rw [hlast, hh] at h1
      refine ⟨⟨h1.1, hfree.1 (fun k hk => ?_)⟩, ih.1 (fun i hi => ?_)⟩
      · have := h1.2 k hk
        rwa [hat k hk] at this
      · rw [hl] at hi
        have := h i (by simp; omega)
        unfold okP at this ⊢
        rw [hat i hi] at this
        exact ⟨this.1, fun k hk => by have h2 := this.2 k hk; rwa [hat k (by omega)] at h2⟩
    · rintro ⟨⟨h1, h2⟩, h3⟩ i hi
      have hi' : i < d.length + 1 := by simp at hi; omega
      unfold okP
      rcases Nat.lt_succ_iff_lt_or_eq.1 hi' with g | g
      · have := ih.2 h3 i (by omega)
        unfold okP at this
        rw [hat i g]
        exact ⟨this.1, fun k hk => by rw [hat k (by omega)]; exact this.2 k hk⟩
      · subst g
        rw [hlast, hh]
        exact ⟨h1, fun k hk => by rw [hat k hk]; exact hfree.2 h2 k hk⟩
theorem gPk_lies {c : TChamber} {done : List (THull × TSpot)} {hs t : List THull} {h : THull} (s : TSpot) (he : hs = (done.map Prod.fst).reverse ++ h :: t) (hl : lies c done) (hi : inside c h s) :
    gPk c hs ((done.map Prod.snd).reverse ++ [s]) = freeB h s done := by
  have k := pack_lies (c := c) ((h, s) :: done) hs t (by rw [he]; simp)
  have hss : (((h, s) :: done).map Prod.snd).reverse = (done.map Prod.snd).reverse ++ [s] := by simp
  rw [hss] at k
  rw [Bool.eq_iff_iff, gPk_iff, k, freeB_iff]
  exact ⟨fun h => h.1.2, fun h => ⟨⟨hi, h⟩, hl⟩⟩
/-- The hulls with their spots, the last one first. -/
abbrev laidL (hs : List THull) (ss : List TSpot) : List (THull × TSpot) := (hs.zip ss).reverse
theorem zip_fst : ∀ (hs : List THull) (ss : List TSpot), hs.length = ss.length → (hs.zip ss).map Prod.fst = hs
  | [], _, _ => by simp
  | h :: t, [], e => by simp at e
  | h :: t, s :: u, e => by simp [zip_fst t u (by simpa using e)]
theorem zip_snd : ∀ (hs : List THull) (ss : List TSpot), hs.length = ss.length → (hs.zip ss).map Prod.snd = ss
  | [], [], _ => by simp
  | [], _ :: _, e => by simp at e
  | h :: t, [], e => by simp at e
  | h :: t, s :: u, e => by simp [zip_snd t u (by simpa using e)]
theorem lies_of_pack {c : TChamber} {hs : List THull} {ss : List TSpot} (hl : ss.length = hs.length) (h : pack c hs ss) : lies c (laidL hs ss) := by
  refine (pack_lies (c := c) (laidL hs ss) hs [] ?_).1 ?_
  · rw [List.map_reverse, List.reverse_reverse, zip_fst _ _ hl.symm]; simp
  · rw [List.map_reverse, List.reverse_reverse, zip_snd _ _ hl.symm]; exact h
theorem area_laid {hs : List THull} {ss : List TSpot} (hl : ss.length = hs.length) : area (laidL hs ss) = areaH hs := by
  rw [area_map, List.map_reverse, areaH_reverse, zip_fst _ _ hl.symm]
theorem laid_mem {hs : List THull} {ss : List TSpot} (hl : ss.length = hs.length) {p : THull × TSpot} : p ∈ laidL hs ss ↔ ∃ k, k < hs.length ∧ p = (hs.getD k noHull, ss.getD k noSpot) := by
  rw [List.mem_reverse, List.mem_iff_getElem]
  constructor
  · rintro ⟨k, hk, rfl⟩
    have : k < hs.length ∧ k < ss.length := by simp at hk; omega
    exact ⟨k, this.1, by rw [getHull this.1, getSpot this.2, List.getElem_zip]⟩
  · rintro ⟨k, hk, rfl⟩
    exact ⟨k, by simp; omega, by rw [getHull hk, getSpot (by omega), List.getElem_zip]⟩
/-- The cell (i, j) is covered. -/
def isCov (hs : List THull) (ss : List TSpot) (i j : Nat) : Prop := ∃ p ∈ laidL hs ss, cov p i j
noncomputable instance decCv (hs : List THull) (ss : List TSpot) (i j : Nat) : Decidable (isCov hs ss i j) := Classical.propDecidable _
noncomputable def cntR (hs : List THull) (ss : List TSpot) (i n : Nat) : Nat := sumN (fun j => if isCov hs ss i j then 1 else 0) n
noncomputable def cntA (c : TChamber) (hs : List THull) (ss : List TSpot) (n : Nat) : Nat := sumN (fun i => cntR hs ss i c.x1.toNat) n
theorem cntA_all {c : TChamber} {hs : List THull} {ss : List TSpot} (h : packing c hs ss) : (cntA c hs ss c.x0.toNat : Int) = celH hs hs.length := by
  obtain ⟨hc, hg, hl, hp⟩ := h
  have ha := goodHs_all hg
  rw [celH_take ha _ (Nat.le_refl _), List.take_length, ← area_laid hl]
  obtain ⟨⟨c0, -⟩, c1, -⟩ := hc
  rw [← covered_eq (c := c) (by omega) (by omega) (laidL hs ss) (lies_of_pack hl hp) (fun p hp => by
    obtain ⟨k, hk, rfl⟩ := (laid_mem hl).1 hp
    obtain ⟨-, h1, h2⟩ := (hg.2 k hk).1
    exact ⟨h1.1, h2.1⟩)]
  congr 1
  unfold cntA cntR
  refine sumN_congr _ (fun i _ => sumN_congr _ (fun j _ => ?_))
  by_cases h : isCov hs ss i j
  · have h' : ∃ p ∈ laidL hs ss, cov p i j := h
    rw [if_pos h, if_pos h']
  · have h' : ¬ ∃ p ∈ laidL hs ss, cov p i j := h
    rw [if_neg h, if_neg h']
theorem cntR_le (hs : List THull) (ss : List TSpot) (i n : Nat) : cntR hs ss i n ≤ n := by
  have := sumN_le (f := fun j => if isCov hs ss i j then 1 else 0) (b := 1) n (fun j _ => by split <;> omega)
  unfold cntR; omega
theorem cntA_le {c : TChamber} (hc : c.x1 ≤ 3) (hs : List THull) (ss : List TSpot) (n : Nat) : cntA c hs ss n ≤ 3 * n := by
  refine sumN_le n (fun i _ => ?_)
  have := cntR_le hs ss i c.x1.toNat
  omega

/-- What the search for the hull that covers a cell answers. -/
def coverR (hs : List THull) (ss : List TSpot) (i j : Nat) (r : Int) : Prop := (r = -1 ∧ ¬ isCov hs ss i j) ∨ (∃ k, k < hs.length ∧ r = (k : Int) ∧ cov (hs.getD k noHull, ss.getD k noSpot) i j)
theorem coverR_yes {hs : List THull} {ss : List TSpot} {i j : Nat} {r : Int} (hl : ss.length = hs.length) (h : coverR hs ss i j r) : (0 ≤ r ↔ isCov hs ss i j) ∧ -1 ≤ r ∧ r < hs.length ∨ (r = -1 ∧ ¬ isCov hs ss i j) := by
  rcases h with ⟨rfl, h⟩ | ⟨k, hk, rfl, h⟩
  · exact .inr ⟨rfl, h⟩
  · exact .inl ⟨⟨fun _ => ⟨_, (laid_mem hl).2 ⟨k, hk, rfl⟩, h⟩, fun _ => by omega⟩, by omega, by omega⟩
theorem coverR_iff {hs : List THull} {ss : List TSpot} {i j : Nat} {r : Int} (hl : ss.length = hs.length) (h : coverR hs ss i j r) : (isCov hs ss i j → 0 ≤ r) ∧ (¬ isCov hs ss i j → r = -1) ∧ -1 ≤ r ∧ r < 1000000 + hs.length := by
  rcases h with ⟨rfl, h⟩ | ⟨k, hk, rfl, h⟩
  · exact ⟨fun g => absurd g h, fun _ => rfl, by omega, by omega⟩
  · have : isCov hs ss i j := ⟨_, (laid_mem hl).2 ⟨k, hk, rfl⟩, h⟩
    exact ⟨fun _ => by omega, fun g => absurd this g, by omega, by omega⟩
theorem not_cov {hs : List THull} {ss : List TSpot} {i j : Nat} (hl : ss.length = hs.length) (h : ∀ k, k < hs.length → ¬ cov (hs.getD k noHull, ss.getD k noSpot) i j) : ¬ isCov hs ss i j := by
  rintro ⟨p, hp, hc⟩
  obtain ⟨k, hk, rfl⟩ := (laid_mem hl).1 hp
  exact h k hk hc
theorem meet_cov {h : THull} {s : TSpot} {i j : Nat} : meet h s ⟨0, 1, 1⟩ ⟨(i : Int), (j : Int)⟩ ↔ cov (h, s) i j := by
  unfold meet cov
  dsimp only
  omega
theorem cntR_succ (hs : List THull) (ss : List TSpot) (i n : Nat) : cntR hs ss i (n + 1) = cntR hs ss i n + if isCov hs ss i n then 1 else 0 := rfl
theorem cntA_succ (c : TChamber) (hs : List THull) (ss : List TSpot) (n : Nat) : cntA c hs ss (n + 1) = cntA c hs ss n + cntR hs ss n c.x1.toNat := rfl

/-- The hulls of a group, the first k of them asked. -/
def chosenN (hs : List THull) (set : Nat) : Nat → List THull
  | 0 => []
  | k + 1 => if set.testBit k then chosenN hs set k ++ [hs.getD k noHull] else chosenN hs set k
abbrev chosen (hs : List THull) (set : Nat) : List THull := chosenN hs set hs.length
theorem chosenN_sub (hs : List THull) (set : Nat) : ∀ k, k ≤ hs.length → (chosenN hs set k).Sublist (hs.take k)
  | 0, _ => by simp [chosenN]
  | k + 1, h => by
    have ih := chosenN_sub hs set k (by omega)
    have hd := getHull (vs := hs) (j := k) (by omega)
    rw [chosenN, List.take_succ_eq_append_getElem (by omega), hd]
    split
    · exact ih.append (List.Sublist.refl _)
    · exact ih.trans (List.sublist_append_left _ _)
theorem chosen_sub (hs : List THull) (set : Nat) : (chosen hs set).Sublist hs := by
  have := chosenN_sub hs set hs.length (Nat.le_refl _)
  rwa [List.take_length] at this
theorem chosenN_len (hs : List THull) (set : Nat) : ∀ k, (chosenN hs set k).length ≤ k
  | 0 => by simp [chosenN]
  | k + 1 => by
    have := chosenN_len hs set k
    rw [chosenN]
    split
    · simp; omega
    · omega
/-- Lists of numbers in lexicographic order. -/
def lessL : List Int → List Int → Bool
  | _, [] => false
  | [], _ :: _ => true
  | a :: s, b :: t => if a = b then lessL s t else decide (a < b)
theorem lessL_at : ∀ (k : Nat) (a b : List Int), k ≤ a.length → k ≤ b.length → a.take k = b.take k → lessL a b = lessL (a.drop k) (b.drop k)
  | 0, _, _, _, _, _ => rfl
  | k + 1, a, b, h1, h2, h => by
    cases a with
    | nil => simp at h1
    | cons x s =>
      cases b with
      | nil => simp at h2
      | cons y t =>
        simp only [List.take_succ_cons, List.cons.injEq] at h
        obtain ⟨rfl, h⟩ := h
        simp only [List.drop_succ_cons, lessL, if_true]
        exact lessL_at k s t (by simpa using h1) (by simpa using h2) h
abbrev idsOf (hs : List THull) : List Int := hs.map THull.x0
def betterL (ids best : List Int) : Bool := decide (best.length < ids.length) || (decide (ids.length = best.length) && lessL ids best)
/-- The greatest group, the first k asked. -/
def mostN (c : TChamber) (hs : List THull) : Nat → List Int
  | 0 => []
  | k + 1 => if betterL (idsOf (chosen hs k)) (mostN c hs k) = true ∧ fits c (chosen hs k) = true then idsOf (chosen hs k) else mostN c hs k
theorem mostN_len (c : TChamber) (hs : List THull) : ∀ k, (mostN c hs k).length ≤ hs.length
  | 0 => by simp [mostN]
  | k + 1 => by
    rw [mostN]
    split
    · rw [List.length_map]; exact chosenN_len _ _ _
    · exact mostN_len c hs k
/-- Lockages in order, the first k hulls: the number of the last lockage, its first hull, the numbers. -/
def lioN (c : TChamber) (hs : List THull) : Nat → Option (Nat × Nat × List Int)
  | 0 => some (0, 0, [])
  | k + 1 => match lioN c hs k with
    | none => none
    | some (l, b, o) => if fits c [hs.getD k noHull] = true then (if fits c ((hs.take (k + 1)).drop b) = true then some (l, b, o ++ [(l : Int)]) else some (l + 1, k, o ++ [((l + 1 : Nat) : Int)])) else none
theorem lioN_bd {c : TChamber} {hs : List THull} : ∀ {k l b o}, lioN c hs k = some (l, b, o) → l ≤ k ∧ b ≤ k ∧ o.length = k
  | 0, l, b, o, h => by injection h with h; injection h with h1 h; injection h with h2 h3; subst h1 h2 h3; simp
  | k + 1, l, b, o, h => by
    rw [lioN] at h
    split at h
    · cases h
    · next l' b' o' e =>
      have ih := lioN_bd e
      split at h
      · split at h
        · injection h with h; injection h with h1 h; injection h with h2 h3; subst h1 h2 h3; simp; omega
        · injection h with h; injection h with h1 h; injection h with h2 h3; subst h1 h2 h3; simp; omega
      · cases h
theorem lioN_none {c : TChamber} {hs : List THull} {k : Nat} (h : lioN c hs k = none) : ∀ d, lioN c hs (k + d) = none
  | 0 => h
  | d + 1 => by
    show lioN c hs (k + d + 1) = none
    rw [lioN, lioN_none h d]
end Go.Proofs.Ytdleidlmjliapaa
