/- Chapter 8: the mathematics of the last lockage: delay, turns and the longest wait. -/
import Derived.Test.YtdleidlmjliapaaLkN
namespace Go.Proofs.Ytdleidlmjliapaa
set_option linter.unusedVariables false

theorem sum_erase (f : Int → Int) : ∀ (m : List Int) (a : Int), a ∈ m → (m.map f).sum = f a + ((m.erase a).map f).sum
  | [], a, h => absurd h (by simp)
  | b :: t, a, h => by
    by_cases e : b = a
    · subst e; simp
    · have ha : a ∈ t := by rcases List.mem_cons.1 h with h | h; exact absurd h.symm e; exact h
      rw [List.erase_cons_tail (by simp [e]), List.map_cons, List.sum_cons, List.map_cons, List.sum_cons, sum_erase f t a ha]
      omega
theorem sum_nonneg (f : Int → Int) : ∀ m : List Int, (∀ x ∈ m, 0 ≤ f x) → 0 ≤ (m.map f).sum
  | [], _ => by simp
  | b :: t, h => by
    have h1 := h b (by simp)
    have h2 := sum_nonneg f t (fun x hx => h x (by simp [hx]))
    rw [List.map_cons, List.sum_cons]; omega
theorem sum_sub (f : Int → Int) : ∀ (l m : List Int), l.Nodup → (∀ x ∈ l, x ∈ m) → (∀ x ∈ m, 0 ≤ f x) → (l.map f).sum ≤ (m.map f).sum
  | [], m, _, _, h => by simpa using sum_nonneg f m h
  | a :: t, m, hn, hs, h => by
    have ha := hs a (by simp)
    have h1 := sum_sub f t (m.erase a) (List.nodup_cons.1 hn).2 (fun x hx => (List.mem_erase_of_ne (by rintro rfl; exact (List.nodup_cons.1 hn).1 hx)).2 (hs x (by simp [hx]))) (fun x hx => h x (List.mem_of_mem_erase hx))
    rw [sum_erase f m a ha, List.map_cons, List.sum_cons]
    omega
theorem sum_range (vs : List TArrival) (f : TArrival → Int) : ∀ n, n ≤ vs.length → (((List.range n).map (fun j : Nat => (j : Int))).map (fun i => f (atA vs i))).sum = ((vs.take n).map f).sum
  | 0, _ => by simp
  | n + 1, h => by
    rw [List.range_succ, List.map_append, List.map_append, List.sum_append, sum_range vs f n (by omega), takeS_snoc noArrival (by omega), List.map_append, List.sum_append]
    simp [atA_cast]
/-- The weights of the first k. -/
def wsum (vs : List TArrival) (k : Nat) : Int := ((vs.take k).map (·.x3)).sum
theorem wsum_snoc {vs : List TArrival} {k : Nat} (h : k < vs.length) : wsum vs (k + 1) = wsum vs k + (vs.getD k noArrival).x3 := by
  unfold wsum; rw [takeS_snoc noArrival h, List.map_append, List.sum_append]; simp
theorem wsum_bd {vs : List TArrival} (hg : goodAs vs) : ∀ k, k ≤ vs.length → 0 ≤ wsum vs k ∧ wsum vs k ≤ 9 * (k : Int)
  | 0, _ => by simp [wsum]
  | k + 1, h => by
    have ih := wsum_bd hg k (by omega)
    have h1 := (hg.2 k (by omega)).1.2.2
    rw [wsum_snoc (by omega)]
    push_cast
    omega
theorem sum_le_mul {α : Type} (f : α → Int) (v W : α → Int) (M : Int) : ∀ L : List α, (∀ l ∈ L, f l = v l * W l ∧ 0 ≤ v l ∧ W l ≤ M) → (L.map f).sum ≤ M * (L.map v).sum
  | [], _ => by simp
  | a :: t, h => by
    obtain ⟨h1, h2, h3⟩ := h a (by simp)
    have ih := sum_le_mul f v W M t (fun l hl => h l (by simp [hl]))
    rw [List.map_cons, List.sum_cons, List.map_cons, List.sum_cons, Int.mul_add, h1]
    have := Int.mul_le_mul_of_nonneg_left h3 h2
    rw [Int.mul_comm M (v a)]
    omega
theorem mem_le_sum {α : Type} (f : α → Int) : ∀ (L : List α) (a : α), (∀ l ∈ L, 0 ≤ f l) → a ∈ L → f a ≤ (L.map f).sum
  | [], a, _, h => absurd h (by simp)
  | b :: t, a, h, hm => by
    have hb := h b (by simp)
    have h0 : 0 ≤ (t.map f).sum := by
      have : ∀ t : List α, (∀ l ∈ t, 0 ≤ f l) → 0 ≤ (t.map f).sum := by
        intro t
        induction t with
        | nil => intro _; simp
        | cons c u ih => intro hc; have h1 := hc c (by simp); have h2 := ih (fun l hl => hc l (by simp [hl])); rw [List.map_cons, List.sum_cons]; omega
      exact this t (fun l hl => h l (by simp [hl]))
    rw [List.map_cons, List.sum_cons]
    rcases List.mem_cons.1 hm with rfl | hm
    · omega
    · have := mem_le_sum f t a (fun l hl => h l (by simp [hl])) hm
      omega
/-- The turns do not lean on the minutes. -/
theorem turns_same (vs : List TArrival) (m m' : Int) (h : Bool) (os : List Int) : ∀ k, k ≤ os.length → (lkSt vs m h (os.take k)).2.2 = (lkSt vs m' h (os.take k)).2.2 ∧ trnL (lkSt vs m h (os.take k)).1 = trnL (lkSt vs m' h (os.take k)).1
  | 0, _ => by simp [lkSt, trnL]
  | k + 1, hk => by
    obtain ⟨h1, h2⟩ := turns_same vs m m' h os k (by omega)
    rw [lkSt_take vs m h (by omega), lkSt_take vs m' h (by omega), lkStep, lkStep]
    refine ⟨rfl, ?_⟩
    dsimp only
    unfold trnL at h2 ⊢
    rw [List.map_append, List.sum_append, List.map_append, List.sum_append, h2, h1]
    simp
/-- When the chamber is free: turns and lockages are behind it, and each that has begun. -/
structure EndK (vs : List TArrival) (m : Int) (h : Bool) (os : List Int) (k : Nat) : Prop where
  low : (trnL (lkSt vs m h (os.take k)).1 + (k : Int)) * m ≤ (lkSt vs m h (os.take k)).2.1
  tr : 0 ≤ trnL (lkSt vs m h (os.take k)).1 ∧ trnL (lkSt vs m h (os.take k)).1 ≤ (k : Int)
  last : 0 < k → (lkSt vs m h (os.take k)).2.1 = ((lkSt vs m h (os.take k)).1.getD (k - 1) nolockage).x2 + m
  each : ∀ j, j < k → ((lkSt vs m h (os.take k)).1.getD j nolockage).x2 + m ≤ (lkSt vs m h (os.take k)).2.1
theorem endK {vs : List TArrival} {m : Int} {h : Bool} {os : List Int} (hm : 1 ≤ m ∧ m ≤ 60) (hv : ∀ p, p < os.length → goodA (atA vs (os.getD p 0))) : ∀ k, k ≤ os.length → EndK vs m h os k
  | 0, _ => ⟨by simp [lkSt, trnL], by simp [lkSt, trnL], fun hk => absurd hk (by omega), fun j hj => absurd hj (by omega)⟩
  | k + 1, hk => by
    have ih := endK (h := h) hm hv k (by omega)
    have hB := lkB (h := h) hm hv (k := k) (by omega)
    have e := lkSt_take vs m h (os := os) (k := k) (by omega)
    obtain ⟨h1, h2, h3, h4⟩ := ih
    have hl := hB.len
    obtain ⟨s, hs⟩ : ∃ s, lkSt vs m h (os.take k) = s := ⟨_, rfl⟩
    rw [hs] at h1 h2 h3 h4 hl e
    obtain ⟨L, fr, hi⟩ := s
    dsimp only at h1 h2 h3 h4 hl e
    rw [lkStep] at e
    dsimp only at e
    obtain ⟨V, hV⟩ : ∃ V, atA vs (os.getD k 0) = V := ⟨_, rfl⟩
    rw [hV] at e
    obtain ⟨F, hF⟩ : ∃ F, max (if (V.x1 == hi) = true then fr + m else fr) V.x2 = F := ⟨_, rfl⟩
    rw [hF] at e
    have hFl : fr ≤ F ∧ ((V.x1 == hi) = true → fr + m ≤ F) := by
      rw [← hF]
      constructor
      · split <;> omega
      · intro hx; rw [if_pos hx]; omega
    have ht : trnL (L ++ [(⟨os.getD k 0, V.x1 == hi, F, F - V.x2⟩ : Tlockage)]) = trnL L + (if (V.x1 == hi) = true then (1 : Int) else 0) := by
      unfold trnL; rw [List.map_append, List.sum_append]; simp
    have hml : (trnL L + (if (V.x1 == hi) = true then (1 : Int) else 0) + ((k : Int) + 1)) * m = (trnL L + (k : Int)) * m + (if (V.x1 == hi) = true then m else 0) + m := by
      split
      · rw [show trnL L + 1 + ((k : Int) + 1) = (trnL L + (k : Int)) + 1 + 1 by omega, Int.add_mul, Int.add_mul, Int.one_mul]
      · rw [show trnL L + 0 + ((k : Int) + 1) = (trnL L + (k : Int)) + 1 by omega, Int.add_mul, Int.one_mul]; omega
    refine ⟨?_, ?_, ?_, ?_⟩
    · rw [e]
      dsimp only
      rw [ht]
      push_cast
      rw [hml]
      split
      · next hx => have := hFl.2 hx; omega
      · omega
    · rw [e]
      dsimp only
      rw [ht]
      push_cast
      split <;> omega
    · intro _
      rw [e]
      dsimp only
      rw [Nat.add_sub_cancel, List.getD_eq_getElem?_getD, List.getElem?_append_right (by omega), hl, Nat.sub_self]
      rfl
    · intro j hj
      rw [e]
      dsimp only
      by_cases hjk : j < k
      · have := h4 j hjk
        rw [List.getD_eq_getElem?_getD, List.getElem?_append_left (by omega), ← List.getD_eq_getElem?_getD]
        omega
      · obtain rfl : j = k := by omega
        rw [List.getD_eq_getElem?_getD, List.getElem?_append_right (by omega), hl, Nat.sub_self]
        exact Int.le_refl _
/-- What the law asks of the last lockage. -/
structure EndsA (vs : List TArrival) (m : Int) (i : Nat) (W D E T : Int) : Prop where
  il : i < vs.length
  mm : 1 ≤ m ∧ m ≤ 60
  w : 0 ≤ W ∧ W ≤ 10719
  g : goodA (vs.getD i noArrival)
  tr : 0 ≤ T ∧ T ≤ 6
  s : 0 ≤ wsum vs vs.length ∧ wsum vs vs.length ≤ 54
  up : D ≤ W * wsum vs vs.length
  lo : W * (vs.getD i noArrival).x3 ≤ D
  e1 : (T + (vs.length : Int)) * m ≤ E
  e2 : (vs.getD i noArrival).x2 + W + m ≤ E
theorem ends_ex {vs : List TArrival} {h : Bool} {m : Int} {os : List Int} (hg : gO vs m os = true) (hne : lks vs m h os ≠ []) :
    ∃ i : Nat, (longL (lks vs m h os) ((lks vs m h os).length - 1)).x0 = (i : Int) ∧
      EndsA vs m i (longL (lks vs m h os) ((lks vs m h os).length - 1)).x3 (delL vs (lks vs m h os)) (((lks vs m h os).getD ((lks vs m h os).length - 1) nolockage).x2 + m) (trnL (lks vs 1 h os)) := by
  obtain ⟨ho, hm⟩ := (gO_iff vs m os).1 hg
  have hv : ∀ p, p < os.length → goodA (atA vs (os.getD p 0)) := fun p hp => ho.good hp
  have hlen := lks_len (h := h) hm hv
  have h6 := ho.le6
  have hE := fun {j : Nat} (hj : j < os.length) => lks_each (h := h) ho.1 hm h6 (fun p hp => ho.inn hp) hj
  have hK := endK (h := h) hm hv os.length (Nat.le_refl _)
  have hT := (turns_same vs m 1 h os os.length (Nat.le_refl _)).2
  obtain ⟨k1, k2, k3, k4⟩ := hK
  rw [List.take_length] at k1 k2 k3 k4 hT
  obtain ⟨fr, hfr⟩ : ∃ f, (lkSt vs m h os).2.1 = f := ⟨_, rfl⟩
  rw [hfr] at k1 k3 k4
  change (trnL (lks vs m h os) + _) * m ≤ fr at k1
  change 0 ≤ trnL (lks vs m h os) ∧ trnL (lks vs m h os) ≤ _ at k2
  change 0 < os.length → fr = ((lks vs m h os).getD (os.length - 1) nolockage).x2 + m at k3
  change ∀ j, j < os.length → ((lks vs m h os).getD j nolockage).x2 + m ≤ fr at k4
  change trnL (lks vs m h os) = trnL (lks vs 1 h os) at hT
  obtain ⟨L, hL⟩ : ∃ L, lks vs m h os = L := ⟨_, rfl⟩
  rw [hL] at hne hlen hE k1 k2 k3 k4 hT
  rw [hL]
  have hl0 : 0 < L.length := List.length_pos_iff.2 hne
  have hn : os.length = vs.length := ho.2.1
  obtain ⟨⟨j, hj, hZ⟩, hmax⟩ := longL_is L (L.length - 1) (by omega)
  obtain ⟨hx0, hin, hb0, hw0, hgi⟩ := hE (j := j) (by omega)
  rw [← hZ] at hx0 hin hb0 hw0 hgi
  generalize longL L (L.length - 1) = Z at hZ hmax hx0 hin hb0 hw0 hgi ⊢
  unfold inA at hin
  have hii : (Z.x0.toNat : Int) = Z.x0 := by omega
  have hat : atA vs Z.x0 = vs.getD Z.x0.toNat noArrival := rfl
  rw [hat] at hgi
  have hnd : os.Nodup := nodup_getD (fun p hp => (ho.2.2 p hp).2.1)
  have hdel : ∀ l ∈ L, wgt vs l = (atA vs l.x0).x3 * l.x3 ∧ 0 ≤ (atA vs l.x0).x3 ∧ l.x3 ≤ Z.x3 := fun l hl => by
    obtain ⟨q, hq, e⟩ := List.getElem_of_mem hl
    have e' : L.getD q nolockage = l := by rw [List.getD_eq_getElem?_getD, List.getElem?_eq_getElem hq]; exact e
    have hq1 := (hE (j := q) (by omega)).g
    rw [e'] at hq1
    have hmx := hmax q (by omega)
    rw [e'] at hmx
    unfold MoreW at hmx
    have := hq1.2.2
    exact ⟨rfl, by omega, by omega⟩
  have hmap : L.map (fun l => (atA vs l.x0).x3) = os.map (fun i => (atA vs i).x3) := by
    apply List.ext_getElem
    · simp [hlen]
    · intro q h1 h2
      simp only [List.length_map] at h1 h2
      have hq1 := (hE (j := q) h2).i
      rw [List.getD_eq_getElem?_getD, List.getElem?_eq_getElem h1, List.getD_eq_getElem?_getD, List.getElem?_eq_getElem h2] at hq1
      simp only [List.getElem_map]
      rw [show L[q].x0 = os[q] from hq1]
  have hws : (os.map (fun i => (atA vs i).x3)).sum ≤ wsum vs vs.length := by
    have h1 := sum_sub (fun i => (atA vs i).x3) os ((List.range vs.length).map (fun j : Nat => (j : Int))) hnd (fun x hx => by
      obtain ⟨q, hq, e⟩ := List.getElem_of_mem hx
      have := ho.inn hq
      rw [List.getD_eq_getElem?_getD, List.getElem?_eq_getElem hq] at this
      change inA vs.length os[q] at this
      rw [e] at this
      unfold inA at this
      rw [List.mem_map]
      exact ⟨x.toNat, List.mem_range.2 (by omega), by omega⟩) (fun x hx => by
      rw [List.mem_map] at hx
      obtain ⟨q, hq, rfl⟩ := hx
      have := (ho.1.2 q (List.mem_range.1 hq)).1.2.2
      rw [atA_cast]; omega)
    rw [sum_range vs (·.x3) vs.length (Nat.le_refl _)] at h1
    exact h1
  have hmi := hgi.2.1
  refine ⟨Z.x0.toNat, hii.symm, by omega, hm, ⟨hw0.2, ?_⟩, hgi, by rw [← hT]; omega, ?_, ?_, ?_, ?_, ?_⟩
  · have := hv j (by omega)
    have := this.2.1
    omega
  · have := wsum_bd ho.1 vs.length (Nat.le_refl _)
    have := ho.1.1
    omega
  · have h1 := sum_le_mul (wgt vs) (fun l => (atA vs l.x0).x3) (·.x3) Z.x3 L hdel
    rw [hmap] at h1
    have h2 := Int.mul_le_mul_of_nonneg_left hws hw0.2
    exact Int.le_trans h1 h2
  · have h1 := mem_le_sum (wgt vs) L Z (fun l hl => by
      obtain ⟨e, h2, h3⟩ := hdel l hl
      obtain ⟨q, hq, e'⟩ := List.getElem_of_mem hl
      have e2 : L.getD q nolockage = l := by rw [List.getD_eq_getElem?_getD, List.getElem?_eq_getElem hq]; exact e'
      have h4 := (hE (j := q) (by omega)).w.2
      rw [e2] at h4
      rw [e]
      exact Int.mul_nonneg h2 h4) (by rw [hZ, List.getD_eq_getElem?_getD, List.getElem?_eq_getElem (by omega)]; exact List.getElem_mem _)
    rw [Int.mul_comm]
    exact h1
  · rw [← hT, ← hn, hlen]
    rw [hlen] at hl0
    rw [← k3 hl0]
    exact k1
  · have h1 := k4 j (by omega)
    have h2 := k3 (by omega)
    rw [← hZ] at h1
    rw [hlen]
    have h3 : atA vs (os.getD j 0) = vs.getD Z.x0.toNat noArrival := by rw [← hx0]; rfl
    rw [h3] at hw0
    omega
end Go.Proofs.Ytdleidlmjliapaa
