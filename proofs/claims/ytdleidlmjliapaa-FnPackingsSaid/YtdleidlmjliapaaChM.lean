/- Chapter 4 as a model of its own: hulls, packings, the smallest packing, cells that are covered, groups. -/
import Derived.Test.YtdleidlmjliapaaSHull
import Derived.Test.YtdleidlmjliapaaSSpot
import Derived.Test.YtdleidlmjliapaaSChamber
namespace Go.Proofs.Ytdleidlmjliapaa
open Go.RowKit Go.PlainAid

/-- A chamber, a hull, hulls that are good. -/
def goodC (c : TChamber) : Prop := (1 ≤ c.x0 ∧ c.x0 ≤ 6) ∧ (1 ≤ c.x1 ∧ c.x1 ≤ 3)
def goodH (h : THull) : Prop := (1 ≤ h.x0 ∧ h.x0 ≤ 99) ∧ (1 ≤ h.x1 ∧ h.x1 ≤ 6) ∧ (1 ≤ h.x2 ∧ h.x2 ≤ 3)
instance decC (c : TChamber) : Decidable (goodC c) := by unfold goodC; infer_instance
instance decH (h : THull) : Decidable (goodH h) := by unfold goodH; infer_instance
def okHs (hs : List THull) (j : Nat) : Prop := goodH (hs.getD j noHull) ∧ (0 < j → (hs.getD (j - 1) noHull).x0 < (hs.getD j noHull).x0)
def goodHs (hs : List THull) : Prop := hs.length ≤ 4 ∧ ∀ j, j < hs.length → okHs hs j
noncomputable instance decHs (hs : List THull) : Decidable (goodHs hs) := Classical.propDecidable _
noncomputable def gHs (hs : List THull) : Bool := decide (goodHs hs)
theorem gHs_iff (hs : List THull) : gHs hs = true ↔ goodHs hs := decide_eq_true_iff
theorem gHs_yes {hs : List THull} (h : goodHs hs) : gHs hs = true := decide_eq_true h
theorem gHs_no {hs : List THull} (h : ¬ goodHs hs) : gHs hs = false := decide_eq_false h
/-- Two hulls at spots cover a cell both; a hull lies inside. -/
def meet (a : THull) (s : TSpot) (b : THull) (t : TSpot) : Prop := s.x0 < t.x0 + b.x1 ∧ t.x0 < s.x0 + a.x1 ∧ s.x1 < t.x1 + b.x2 ∧ t.x1 < s.x1 + a.x2
instance decM (a : THull) (s : TSpot) (b : THull) (t : TSpot) : Decidable (meet a s b t) := by unfold meet; infer_instance
def inside (c : TChamber) (h : THull) (s : TSpot) : Prop := (0 ≤ s.x0 ∧ s.x0 ≤ c.x0 - h.x1) ∧ (0 ≤ s.x1 ∧ s.x1 ≤ c.x1 - h.x2)
instance decI (c : TChamber) (h : THull) (s : TSpot) : Decidable (inside c h s) := by unfold inside; infer_instance
/-- The spot j of a row of spots lies well. -/
def okP (c : TChamber) (hs : List THull) (ss : List TSpot) (i : Nat) : Prop := inside c (hs.getD i noHull) (ss.getD i noSpot) ∧ ∀ k, k < i → ¬ meet (hs.getD i noHull) (ss.getD i noSpot) (hs.getD k noHull) (ss.getD k noSpot)
def pack (c : TChamber) (hs : List THull) (ss : List TSpot) : Prop := ∀ i, i < ss.length → okP c hs ss i
def packing (c : TChamber) (hs : List THull) (ss : List TSpot) : Prop := goodC c ∧ goodHs hs ∧ ss.length = hs.length ∧ pack c hs ss
noncomputable instance decP (c : TChamber) (hs : List THull) (ss : List TSpot) : Decidable (pack c hs ss) := Classical.propDecidable _
noncomputable instance decPk (c : TChamber) (hs : List THull) (ss : List TSpot) : Decidable (packing c hs ss) := Classical.propDecidable _
noncomputable def gP (c : TChamber) (hs : List THull) (ss : List TSpot) : Bool := decide (packing c hs ss)
theorem gP_iff (c : TChamber) (hs : List THull) (ss : List TSpot) : gP c hs ss = true ↔ packing c hs ss := decide_eq_true_iff

/-- The first of f 0, f 1 .. f (n-1) that is something. -/
def fstS {α : Type} (f : Nat → Option α) : Nat → Option α
  | 0 => none
  | k + 1 => match fstS f k with
    | some x => some x
    | none => f k
theorem fstS_none {α : Type} {f : Nat → Option α} {k : Nat} (h : fstS f k = none) (hk : f k = none) : fstS f (k + 1) = none := by
  show (match fstS f k with | some x => some x | none => f k) = none
  rw [h]; exact hk
theorem fstS_hit {α : Type} {f : Nat → Option α} {k : Nat} {x : α} (h : fstS f k = none) (hk : f k = some x) : ∀ d, fstS f (k + 1 + d) = some x
  | 0 => by
    show (match fstS f k with | some x => some x | none => f k) = some x
    rw [h]; exact hk
  | d + 1 => by
    show (match fstS f (k + 1 + d) with | some x => some x | none => f (k + 1 + d)) = some x
    rw [fstS_hit h hk d]
theorem fstS_some {α : Type} {f : Nat → Option α} {n : Nat} {x : α} (h : fstS f n = some x) : ∃ k, k < n ∧ f k = some x := by
  induction n with
  | zero => exact absurd h (by simp [fstS])
  | succ n ih =>
    have h' : (match fstS f n with | some x => some x | none => f n) = some x := h
    cases e : fstS f n with
    | some y => rw [e] at h'; obtain ⟨k, a, b⟩ := ih (e.trans h'); exact ⟨k, by omega, b⟩
    | none => rw [e] at h'; exact ⟨n, by omega, h'⟩
theorem fstS_isSome {α : Type} {f : Nat → Option α} {k : Nat} (hk : (f k).isSome = true) : ∀ n, k < n → (fstS f n).isSome = true
  | 0, h => absurd h (by omega)
  | n + 1, h => by
    show (match fstS f n with | some x => some x | none => f n).isSome = true
    cases e : fstS f n with
    | some y => rfl
    | none =>
      rcases Nat.lt_succ_iff_lt_or_eq.1 h with h1 | h1
      · have := fstS_isSome hk n h1; rw [e] at this; exact absurd this (by simp)
      · subst h1; exact hk
/-- A hull at a spot meets none of those that lie there. -/
def freeB (h : THull) (s : TSpot) (done : List (THull × TSpot)) : Bool := done.all fun p => !decide (meet h s p.1 p.2)
theorem freeB_cons (h : THull) (s : TSpot) (p : THull × TSpot) (done : List (THull × TSpot)) : freeB h s (p :: done) = (!decide (meet h s p.1 p.2) && freeB h s done) := rfl
theorem freeB_iff (h : THull) (s : TSpot) (done : List (THull × TSpot)) : freeB h s done = true ↔ ∀ p ∈ done, ¬ meet h s p.1 p.2 := by
  unfold freeB
  simp
/-- How many places, how many sides a hull can have. -/
def nAt (c : TChamber) (h : THull) : Nat := (c.x0 - h.x1 + 1).toNat
def nSide (c : TChamber) (h : THull) : Nat := (c.x1 - h.x2 + 1).toNat
abbrev sp (i j : Nat) : TSpot := ⟨(i : Int), (j : Int)⟩
/-- The smallest packing of the hulls beside those that lie there (the last one first). -/
def search (c : TChamber) : List THull → List (THull × TSpot) → Option (List (THull × TSpot))
  | [], done => some done
  | h :: t, done => fstS (fun i => fstS (fun j => if freeB h (sp i j) done = true then search c t ((h, sp i j) :: done) else none) (nSide c h)) (nAt c h)
/-- What the place (i, j) gives. -/
def tryAt (c : TChamber) (h : THull) (t : List THull) (done : List (THull × TSpot)) (i j : Nat) : Option (List (THull × TSpot)) := if freeB h (sp i j) done = true then search c t ((h, sp i j) :: done) else none
def tryRow (c : TChamber) (h : THull) (t : List THull) (done : List (THull × TSpot)) (i : Nat) : Option (List (THull × TSpot)) := fstS (tryAt c h t done i) (nSide c h)
theorem search_cons (c : TChamber) (h : THull) (t : List THull) (done : List (THull × TSpot)) : search c (h :: t) done = fstS (tryRow c h t done) (nAt c h) := rfl

/-- What lies there lies well: inside and nothing meets. -/
def lies (c : TChamber) : List (THull × TSpot) → Prop
  | [] => True
  | p :: t => (inside c p.1 p.2 ∧ ∀ q ∈ t, ¬ meet p.1 p.2 q.1 q.2) ∧ lies c t
theorem search_some {c : TChamber} : ∀ (t : List THull) (done r : List (THull × TSpot)), lies c done → search c t done = some r → lies c r ∧ ∃ e, r = e ++ done ∧ e.map Prod.fst = t.reverse
  | [], done, r, hl, h => by
    injection h with h
    subst h
    exact ⟨hl, [], rfl, rfl⟩
  | h :: t, done, r, hl, hr => by
    rw [search_cons] at hr
    obtain ⟨i, hi, h1⟩ := fstS_some hr
    obtain ⟨j, hj, h2⟩ := fstS_some h1
    unfold tryAt at h2
    split at h2
    · next hf =>
      have hins : inside c h (sp i j) := by unfold nAt at hi; unfold nSide at hj; unfold inside sp; dsimp only; omega
      obtain ⟨a, e, he, hm⟩ := search_some t _ r (show lies c ((h, sp i j) :: done) from ⟨⟨hins, (freeB_iff _ _ _).1 hf⟩, hl⟩) h2
      exact ⟨a, e ++ [(h, sp i j)], by simp [he], by simp [hm]⟩
    · exact absurd h2 (by simp)

/-- The sum of f 0 .. f (n-1). -/
def sumN (f : Nat → Nat) : Nat → Nat
  | 0 => 0
  | k + 1 => sumN f k + f k
theorem sumN_congr {f g : Nat → Nat} : ∀ n, (∀ i, i < n → f i = g i) → sumN f n = sumN g n
  | 0, _ => rfl
  | k + 1, h => by simp only [sumN]; rw [sumN_congr k (fun i hi => h i (by omega)), h k (by omega)]
theorem sumN_add (f g : Nat → Nat) : ∀ n, sumN (fun i => f i + g i) n = sumN f n + sumN g n
  | 0 => rfl
  | k + 1 => by simp only [sumN]; rw [sumN_add f g k]; omega
theorem sumN_zero : ∀ n, sumN (fun _ => 0) n = 0
  | 0 => rfl
  | k + 1 => by simp only [sumN]; rw [sumN_zero k]
theorem sumN_le {f : Nat → Nat} {b : Nat} : ∀ n, (∀ i, i < n → f i ≤ b) → sumN f n ≤ b * n
  | 0, _ => by simp [sumN]
  | k + 1, h => by
    have := sumN_le k (fun i hi => h i (by omega))
    have := h k (by omega)
    simp only [sumN, Nat.mul_add]
    omega
/-- An interval is counted. -/
theorem sumN_iv (a l m : Nat) : ∀ n, a + l ≤ n → sumN (fun i => if a ≤ i ∧ i < a + l then m else 0) n = l * m := by
  have part : ∀ n, sumN (fun i => if a ≤ i ∧ i < a + l then m else 0) n = (min n (a + l) - a) * m := by
    intro n
    induction n with
    | zero => simp [sumN]
    | succ n ih =>
      simp only [sumN]
      rw [ih]
      split
      · next h =>
        have e : min (n + 1) (a + l) - a = (min n (a + l) - a) + 1 := by omega
        rw [e, Nat.add_mul, Nat.one_mul]
      · next h =>
        have e : min (n + 1) (a + l) - a = min n (a + l) - a := by omega
        rw [e]; rfl
  intro n hn
  rw [part n, show min n (a + l) - a = l by omega]
/-- A hull at a spot covers the cell (i, j). -/
def cov (p : THull × TSpot) (i j : Nat) : Prop := p.2.x0 ≤ (i : Int) ∧ (i : Int) < p.2.x0 + p.1.x1 ∧ p.2.x1 ≤ (j : Int) ∧ (j : Int) < p.2.x1 + p.1.x2
instance decCov (p : THull × TSpot) (i j : Nat) : Decidable (cov p i j) := by unfold cov; infer_instance
/-- The cells of a chamber that a hull covers are counted. -/
theorem cov_count {c : TChamber} {p : THull × TSpot} (hp : inside c p.1 p.2) (h1 : 1 ≤ p.1.x1) (h2 : 1 ≤ p.1.x2) (hc0 : 0 ≤ c.x0) (hc1 : 0 ≤ c.x1) :
    sumN (fun i => sumN (fun j => if cov p i j then 1 else 0) c.x1.toNat) c.x0.toNat = (p.1.x1 * p.1.x2).toNat := by
  obtain ⟨⟨a0, a1⟩, b0, b1⟩ := hp
  have hin : ∀ i, sumN (fun j => if cov p i j then 1 else 0) c.x1.toNat = if p.2.x0.toNat ≤ i ∧ i < p.2.x0.toNat + p.1.x1.toNat then p.1.x2.toNat else 0 := by
    intro i
    split
    · next h =>
      rw [sumN_congr (g := fun j => if p.2.x1.toNat ≤ j ∧ j < p.2.x1.toNat + p.1.x2.toNat then 1 else 0) _ (fun j hj => by
        have : cov p i j ↔ (p.2.x1.toNat ≤ j ∧ j < p.2.x1.toNat + p.1.x2.toNat) := by unfold cov; omega
        simp only [this]), sumN_iv _ _ _ _ (by omega), Nat.mul_one]
    · next h =>
      rw [sumN_congr (g := fun _ => 0) _ (fun j hj => by
        have : ¬ cov p i j := by unfold cov; omega
        simp only [if_neg this]), sumN_zero]
  rw [sumN_congr _ (fun i _ => hin i), sumN_iv _ _ _ _ (by omega)]
  obtain ⟨m, hm⟩ : ∃ m : Nat, p.1.x1 = m := ⟨p.1.x1.toNat, by omega⟩
  obtain ⟨n, hn⟩ : ∃ n : Nat, p.1.x2 = n := ⟨p.1.x2.toNat, by omega⟩
  rw [hm, hn, ← Int.natCast_mul, Int.toNat_natCast, Int.toNat_natCast, Int.toNat_natCast]
/-- The cells of hulls. -/
def area : List (THull × TSpot) → Nat
  | [] => 0
  | p :: t => (p.1.x1 * p.1.x2).toNat + area t
theorem cov_meet {p q : THull × TSpot} {i j : Nat} (h1 : cov p i j) (h2 : cov q i j) : meet p.1 p.2 q.1 q.2 := by
  unfold cov at h1 h2
  unfold meet
  omega
/-- In a packing the covered cells are those of the hulls. -/
theorem covered_eq {c : TChamber} (hc0 : 0 ≤ c.x0) (hc1 : 0 ≤ c.x1) : ∀ (L : List (THull × TSpot)), lies c L → (∀ p ∈ L, 1 ≤ p.1.x1 ∧ 1 ≤ p.1.x2) →
    sumN (fun i => sumN (fun j => if (∃ p ∈ L, cov p i j) then 1 else 0) c.x1.toNat) c.x0.toNat = area L
  | [], _, _ => by
    simp only [List.not_mem_nil, false_and, exists_false, if_false, area]
    rw [sumN_congr (g := fun _ => 0) _ (fun i _ => sumN_zero _), sumN_zero]
  | p :: t, ⟨⟨hi, hm⟩, hl⟩, hp => by
    have ih := covered_eq hc0 hc1 t hl (fun q hq => hp q (List.mem_cons_of_mem _ hq))
    have h1 := cov_count hi (hp p (by simp)).1 (hp p (by simp)).2 hc0 hc1
    show _ = (p.1.x1 * p.1.x2).toNat + area t
    rw [← ih, ← h1, ← sumN_add]
    refine sumN_congr _ (fun i _ => ?_)
    rw [← sumN_add]
    refine sumN_congr _ (fun j _ => ?_)
    by_cases hcp : cov p i j
    · have hn : ¬ ∃ q ∈ t, cov q i j := fun ⟨q, hq, hcq⟩ => hm q hq (cov_meet hcp hcq)
      rw [if_pos hcp, if_neg hn, if_pos ⟨p, by simp, hcp⟩]
    · rw [if_neg hcp]
      by_cases hn : ∃ q ∈ t, cov q i j
      · obtain ⟨q, hq, hcq⟩ := hn
        rw [if_pos ⟨q, by simp [hq], hcq⟩, if_pos ⟨q, hq, hcq⟩]
      · rw [if_neg hn, if_neg (fun ⟨q, hq, hcq⟩ => by
          rcases List.mem_cons.1 hq with e | e
          · subst e; exact hcp hcq
          · exact hn ⟨q, e, hcq⟩)]
theorem area_le {c : TChamber} (hc0 : 0 ≤ c.x0) (hc1 : 0 ≤ c.x1) (L : List (THull × TSpot)) (hl : lies c L) (hp : ∀ p ∈ L, 1 ≤ p.1.x1 ∧ 1 ≤ p.1.x2) : (area L : Int) ≤ c.x0 * c.x1 := by
  have h := covered_eq hc0 hc1 L hl hp
  have h2 : area L ≤ c.x1.toNat * c.x0.toNat := by
    rw [← h]
    refine sumN_le _ (fun i _ => ?_)
    have := sumN_le (f := fun j => if (∃ p ∈ L, cov p i j) then 1 else 0) (b := 1) c.x1.toNat (fun j _ => by split <;> omega)
    omega
  have e1 : c.x0 = (c.x0.toNat : Int) := by omega
  have e2 : c.x1 = (c.x1.toNat : Int) := by omega
  rw [e1, e2, ← Int.natCast_mul, Nat.mul_comm]
  exact Int.ofNat_le.2 h2
/-- The cells of a row of hulls. -/
def areaH : List THull → Nat
  | [] => 0
  | h :: t => (h.x1 * h.x2).toNat + areaH t
theorem areaH_append : ∀ (a b : List THull), areaH (a ++ b) = areaH a + areaH b
  | [], b => by simp [areaH]
  | h :: t, b => by simp only [List.cons_append, areaH, areaH_append t b]; omega
theorem areaH_reverse : ∀ (a : List THull), areaH a.reverse = areaH a
  | [] => rfl
  | h :: t => by rw [List.reverse_cons, areaH_append, areaH_reverse t]; simp only [areaH]; omega
theorem area_map : ∀ (L : List (THull × TSpot)), area L = areaH (L.map Prod.fst)
  | [] => rfl
  | p :: t => by simp only [area, List.map_cons, areaH, area_map t]
/-- Whether hulls have a packing. -/
def fits (c : TChamber) (hs : List THull) : Bool := (search c hs []).isSome
theorem fits_area {c : TChamber} {hs : List THull} (hc : goodC c) (hg : ∀ h ∈ hs, goodH h) (h : fits c hs = true) : (areaH hs : Int) ≤ c.x0 * c.x1 := by
  unfold fits at h
  cases e : search c hs [] with
  | none => rw [e] at h; cases h
  | some r =>
    obtain ⟨hl, e', hr, hm⟩ := search_some hs [] r trivial e
    rw [List.append_nil] at hr
    subst hr
    obtain ⟨⟨c0, -⟩, c1, -⟩ := hc
    have := area_le (c := c) (by omega) (by omega) r hl (fun p hp => by
      have : p.1 ∈ hs := by
        have h1 : p.1 ∈ r.map Prod.fst := List.mem_map.2 ⟨p, hp, rfl⟩
        rw [hm] at h1
        exact List.mem_reverse.1 h1
      obtain ⟨-, h2, h3⟩ := hg _ this
      omega)
    rwa [area_map, hm, areaH_reverse] at this
/-- The cells of the first k hulls. -/
def celH (hs : List THull) : Nat → Int
  | 0 => 0
  | k + 1 => celH hs k + (hs.getD k noHull).x1 * (hs.getD k noHull).x2
theorem cellH_bd {h : THull} (g : goodH h) : 1 ≤ h.x1 * h.x2 ∧ h.x1 * h.x2 ≤ 18 := by
  obtain ⟨-, h1, h2⟩ := g
  obtain h3 | h3 | h3 : h.x2 = 1 ∨ h.x2 = 2 ∨ h.x2 = 3 := by omega
  all_goals rw [h3]; omega
theorem celH_take {hs : List THull} (hg : ∀ h ∈ hs, goodH h) : ∀ k, k ≤ hs.length → celH hs k = (areaH (hs.take k) : Int)
  | 0, _ => by simp [celH, areaH]
  | k + 1, hk => by
    have ih := celH_take hg k (by omega)
    have hd : hs.getD k noHull = hs[k] := by rw [List.getD_eq_getElem?_getD, List.getElem?_eq_getElem (by omega)]; rfl
    have hb := cellH_bd (hg _ (List.getElem_mem (by omega : k < hs.length)))
    rw [celH, ih, hd, List.take_succ_eq_append_getElem (by omega), areaH_append]
    simp only [areaH]
    omega
theorem celH_bd {hs : List THull} (hg : ∀ h ∈ hs, goodH h) : ∀ k, k ≤ hs.length → 0 ≤ celH hs k ∧ celH hs k ≤ 18 * k
  | 0, _ => by simp [celH]
  | k + 1, hk => by
    have ih := celH_bd hg k (by omega)
    have hd : hs.getD k noHull = hs[k] := by rw [List.getD_eq_getElem?_getD, List.getElem?_eq_getElem (by omega)]; rfl
    have hb := cellH_bd (hg _ (List.getElem_mem (by omega : k < hs.length)))
    rw [celH, hd]
    omega
theorem goodHs_all {hs : List THull} (h : goodHs hs) : ∀ x ∈ hs, goodH x := by
  intro x hx
  obtain ⟨j, hj, rfl⟩ := List.mem_iff_getElem.1 hx
  have := (h.2 j hj).1
  rwa [List.getD_eq_getElem?_getD, List.getElem?_eq_getElem hj] at this
/-- Rows of increasing Ids: in words of pairs. -/
theorem goodHs_iff {hs : List THull} : goodHs hs ↔ hs.length ≤ 4 ∧ (∀ x ∈ hs, goodH x) ∧ hs.Pairwise (fun a b => a.x0 < b.x0) := by
  constructor
  · intro h
    refine ⟨h.1, goodHs_all h, ?_⟩
    rw [List.pairwise_iff_getElem]
    have key : ∀ d i, i + d + 1 < hs.length → (hs.getD i noHull).x0 < (hs.getD (i + d + 1) noHull).x0 := by
      intro d
      induction d with
      | zero => intro i hi; exact (h.2 (i + 0 + 1) hi).2 (by omega)
      | succ d ih =>
        intro i hi
        have h1 := ih i (by omega)
        have h2 := (h.2 (i + (d + 1) + 1) hi).2 (by omega)
        rw [show i + (d + 1) + 1 - 1 = i + d + 1 by omega] at h2
        omega
    intro i j hi hj hij
    have := key (j - i - 1) i (by omega)
    rw [show i + (j - i - 1) + 1 = j by omega] at this
    rwa [List.getD_eq_getElem?_getD, List.getElem?_eq_getElem hi, List.getD_eq_getElem?_getD, List.getElem?_eq_getElem hj] at this
  · rintro ⟨h1, h2, h3⟩
    refine ⟨h1, fun j hj => ⟨?_, fun h0 => ?_⟩⟩
    · rw [List.getD_eq_getElem?_getD, List.getElem?_eq_getElem hj]
      exact h2 _ (List.getElem_mem hj)
    · rw [List.pairwise_iff_getElem] at h3
      rw [getHull hj, getHull (show j - 1 < hs.length by omega)]
      exact h3 _ _ _ _ (by omega)
theorem goodHs_sub {hs ts : List THull} (h : goodHs hs) (hsub : ts.Sublist hs) : goodHs ts := by
  rw [goodHs_iff] at h ⊢
  exact ⟨Nat.le_trans hsub.length_le h.1, fun x hx => h.2.1 x (hsub.subset hx), h.2.2.sublist hsub⟩
theorem lies_right {c : TChamber} : ∀ {a b : List (THull × TSpot)}, lies c (a ++ b) → lies c b
  | [], _, h => h
  | _ :: _, _, h => lies_right h.2
theorem search_complete {c : TChamber} : ∀ (t : List THull) (done e : List (THull × TSpot)), e.map Prod.fst = t.reverse → lies c (e ++ done) → (search c t done).isSome = true
  | [], _, _, _, _ => rfl
  | h :: t, done, e, hm, hl => by
    rw [List.reverse_cons] at hm
    obtain ⟨e', x, rfl, h1, h2⟩ : ∃ e' x, e = e' ++ [x] ∧ e'.map Prod.fst = t.reverse ∧ x.1 = h := by
      rcases List.eq_nil_or_concat e with rfl | ⟨e', x, rfl⟩
      · simp at hm
      · rw [List.concat_eq_append, List.map_append] at hm
        have := List.append_inj' hm rfl
        refine ⟨e', x, by simp, this.1, ?_⟩
        simpa using this.2
    obtain ⟨h', s⟩ := x
    dsimp only at h2
    subst h2
    rw [List.append_assoc] at hl
    have hr := lies_right hl
    obtain ⟨⟨hin, hfree⟩, -⟩ := hr
    obtain ⟨⟨a0, a1⟩, b0, b1⟩ := hin
    dsimp only at a0 a1 b0 b1
    obtain ⟨i, hi⟩ : ∃ i : Nat, s.x0 = i := ⟨s.x0.toNat, by omega⟩
    obtain ⟨j, hj⟩ : ∃ j : Nat, s.x1 = j := ⟨s.x1.toNat, by omega⟩
    have hs : s = sp i j := by cases s; simp only at hi hj; subst hi hj; rfl
    have ht : (tryAt c h' t done i j).isSome = true := by
      unfold tryAt
      have hf : freeB h' s done = true := (freeB_iff _ _ _).2 hfree
      rw [← hs, if_pos hf]
      exact search_complete t _ e' h1 hl
    have k1 : j < nSide c h' := by unfold nSide; omega
    have k2 : i < nAt c h' := by unfold nAt; omega
    have hrow : (tryRow c h' t done i).isSome = true := fstS_isSome (f := tryAt c h' t done i) (k := j) ht _ k1
    rw [search_cons]
    exact fstS_isSome (f := tryRow c h' t done) (k := i) hrow _ k2
theorem lies_one {c : TChamber} : ∀ {L : List (THull × TSpot)}, lies c L → ∀ p ∈ L, lies c [p]
  | q :: t, ⟨⟨h1, h2⟩, h3⟩, p, hp => by
    rcases List.mem_cons.1 hp with rfl | hp
    · exact ⟨⟨h1, by simp⟩, trivial⟩
    · exact lies_one h3 p hp
/-- What fits together fits alone. -/
theorem fits_one {c : TChamber} {hs : List THull} (h : fits c hs = true) {x : THull} (hx : x ∈ hs) : fits c [x] = true := by
  unfold fits at h
  cases e : search c hs [] with
  | none => rw [e] at h; cases h
  | some r =>
    obtain ⟨hl, e', hr, hm⟩ := search_some hs [] r trivial e
    rw [List.append_nil] at hr
    subst hr
    have : x ∈ r.map Prod.fst := by rw [hm]; exact List.mem_reverse.2 hx
    obtain ⟨p, hp, rfl⟩ := List.mem_map.1 this
    exact search_complete [p.1] [] [p] rfl (lies_one hl p hp)

/-- s can be divided into m groups that f allows. -/
inductive Grp (f : Nat → Bool) : Nat → Nat → Prop
  | zero : Grp f 0 0
  | step (s p m : Nat) : 0 < p → p &&& s = p → f p = true → Grp f (s - p) m → Grp f s (m + 1)
/-- The smallest number of groups, if there is one. -/
structure FewR (f : Nat → Bool) (s : Nat) (o : Option Nat) : Prop where
  is : ∀ m, o = some m → Grp f s m
  le : ∀ k, Grp f s k → ∃ m, o = some m ∧ m ≤ k
/-- The same of the parts in Q. -/
structure PartR (f : Nat → Bool) (s : Nat) (Q : Nat → Prop) (o : Option Nat) : Prop where
  is : ∀ m, o = some m → Grp f s m
  le : ∀ p k, Q p → 0 < p → p &&& s = p → f p = true → Grp f (s - p) k → ∃ m, o = some m ∧ m ≤ k + 1
theorem FewR.zero (f : Nat → Bool) : FewR f 0 (some 0) := ⟨fun m h => by injection h with h; subst h; exact .zero, fun _ _ => ⟨0, rfl, Nat.zero_le _⟩⟩
theorem PartR.none (f : Nat → Bool) (s : Nat) : PartR f s (fun _ => False) none := ⟨fun _ h => (nomatch h), fun _ _ h => False.elim h⟩
theorem PartR.all {f : Nat → Bool} {s : Nat} {Q : Nat → Prop} {o : Option Nat} (h : PartR f s Q o) (hs : 0 < s) (hQ : ∀ p, 0 < p → p &&& s = p → Q p) : FewR f s o := by
  refine ⟨h.is, fun k hk => ?_⟩
  cases hk with
  | zero => omega
  | step _ p m h1 h2 h3 h4 => exact h.le p m (hQ p h1 h2) h1 h2 h3 h4
/-- A part that isn't one, or isn't allowed. -/
theorem PartR.skip {f : Nat → Bool} {s : Nat} {Q Q' : Nat → Prop} {o : Option Nat} (h : PartR f s Q o) (p : Nat) (hn : ¬ (p &&& s = p ∧ f p = true)) (hQ : ∀ q, Q' q → q &&& s = q → Q q ∨ q = p) : PartR f s Q' o :=
  ⟨h.is, fun q k a b c d e => by
    rcases hQ q a c with g | g
    · exact h.le q k g b c d e
    · subst g; exact absurd ⟨c, d⟩ hn⟩
/-- The lesser of two numbers, of which any may be lacking. -/
def minO : Option Nat → Option Nat → Option Nat
  | some a, some b => some (min a b)
  | some a, none => some a
  | none, o => o
theorem PartR.take {f : Nat → Bool} {s : Nat} {Q Q' : Nat → Prop} {o u : Option Nat} (h : PartR f s Q o) (p : Nat) (h1 : 0 < p) (h2 : p &&& s = p) (h3 : f p = true) (hu : FewR f (s - p) u) (hQ : ∀ q, Q' q → q &&& s = q → Q q ∨ q = p) :
    PartR f s Q' (minO o (u.map (· + 1))) := by
  constructor
  · intro m hm
    cases u with
    | none =>
      cases o with
      | none => simp [minO] at hm
      | some a => simp only [Option.map_none, minO, Option.some.injEq] at hm; subst hm; exact h.is a rfl
    | some b =>
      have hb := Grp.step s p b h1 h2 h3 (hu.is b rfl)
      cases o with
      | none => simp only [Option.map_some, minO, Option.some.injEq] at hm; subst hm; exact hb
      | some a =>
        simp only [Option.map_some, minO, Option.some.injEq] at hm
        subst hm
        rcases Nat.le_total a (b + 1) with g | g
        · rw [Nat.min_eq_left g]; exact h.is a rfl
        · rw [Nat.min_eq_right g]; exact hb
  · intro q k a b c d e
    rcases hQ q a c with g | g
    · obtain ⟨m, rfl, hm⟩ := h.le q k g b c d e
      cases u with
      | none => exact ⟨m, rfl, hm⟩
      | some b => exact ⟨min m (b + 1), rfl, by omega⟩
    · subst g
      obtain ⟨m, rfl, hm⟩ := hu.le k e
      cases o with
      | none => exact ⟨m + 1, rfl, by omega⟩
      | some a => exact ⟨min a (m + 1), rfl, by omega⟩
/-- How many hulls a group has. -/
def pc (s : Nat) : Nat := s % 2 + s / 2 % 2 + s / 4 % 2 + s / 8 % 2
theorem pc_part : ∀ s, s < 16 → ∀ p, p < 16 → 0 < p → p &&& s = p → pc (s - p) + 1 ≤ pc s ∧ p ≤ s := by decide +kernel
theorem part_le {p s : Nat} (h : p &&& s = p) : p ≤ s := h ▸ Nat.and_le_right
theorem div_pc {f : Nat → Bool} {s m : Nat} (h : Grp f s m) : s < 16 → m ≤ pc s := by
  induction h with
  | zero => intro _; exact Nat.zero_le _
  | step s p m h1 h2 h3 _ ih =>
    intro hs
    have := part_le h2
    have := pc_part s hs p (by omega) h1 h2
    have := ih (by omega)
    omega
theorem pc_le {n s : Nat} (hn : n ≤ 4) (hs : s < 2 ^ n) : pc s ≤ n := by
  have key : ∀ n, n < 5 → ∀ s, s < 2 ^ n → pc s ≤ n := by decide +kernel
  exact key n (by omega) s hs
theorem FewR.le_n {f : Nat → Bool} {s n m : Nat} (h : FewR f s (some m)) (hn : n ≤ 4) (hs : s < 2 ^ n) : m ≤ n := by
  have h2 : 2 ^ n ≤ 2 ^ 4 := Nat.pow_le_pow_right (by omega) hn
  exact Nat.le_trans (div_pc (h.is m rfl) (by omega)) (pc_le hn hs)
theorem FewR.uniq {f : Nat → Bool} {s : Nat} {o u : Option Nat} (h : FewR f s o) (k : FewR f s u) : o = u := by
  cases o with
  | none =>
    cases u with
    | none => rfl
    | some b => obtain ⟨m, e, -⟩ := h.le b (k.is b rfl); cases e
  | some a =>
    obtain ⟨m, rfl, hm⟩ := k.le a (h.is a rfl)
    obtain ⟨m', e, hm'⟩ := h.le m (k.is m rfl)
    injection e with e
    subst e
    rw [Nat.le_antisymm hm' hm]
theorem fewR_ex (f : Nat → Bool) (s : Nat) : ∃ o, FewR f s o := by
  rcases Classical.em (∃ m, Grp f s m) with ⟨m, hm⟩ | h
  · induction m using Nat.strongRecOn with
    | _ m ih =>
      rcases Classical.em (∃ k, k < m ∧ Grp f s k) with ⟨k, hk, hd⟩ | hn
      · exact ih k hk hd
      · exact ⟨some m, fun a e => by injection e with e; subst e; exact hm, fun k hk => ⟨m, rfl, by
          rcases Nat.lt_or_ge k m with g | g
          · exact absurd ⟨k, g, hk⟩ hn
          · exact g⟩⟩
  · exact ⟨none, fun a e => (by cases e), fun k hk => absurd ⟨k, hk⟩ h⟩
/-- The next smaller part. -/
theorem next_part1 : ∀ s, s < 16 → ∀ p, p < 16 → 0 < p → ((p - 1) &&& s) &&& s = (p - 1) &&& s ∧ (p - 1) &&& s < p := by decide +kernel
theorem next_part2 : ∀ s, s < 16 → ∀ p, p < 16 → ∀ q, q < 16 → (p &&& s = p ∧ q &&& s = q ∧ q < p → q ≤ (p - 1) &&& s) := by decide +kernel
end Go.Proofs.Ytdleidlmjliapaa
