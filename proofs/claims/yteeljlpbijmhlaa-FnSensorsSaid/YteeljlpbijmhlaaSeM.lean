/- Chapter 6: readings of sensors: the mathematics. -/
import Derived.Test.YteeljlpbijmhlaaMem
namespace Go.Proofs.Yteeljlpbijmhlaa
set_option linter.unusedVariables false
set_option linter.unusedSimpArgs false

/-- A series of levels. -/
def serS (zs : List Int) : Prop := (∀ z ∈ zs, 0 ≤ z ∧ z ≤ 2000) ∧ zs.length ≤ 20
instance (zs : List Int) : Decidable (serS zs) := by unfold serS; infer_instance
/-- A triple of levels. -/
def triS (zs : List Int) : Prop := zs.length = 3 ∧ serS zs
instance (zs : List Int) : Decidable (triS zs) := by unfold triS; infer_instance
theorem triS_three {zs : List Int} (h : triS zs) : ∃ a b c, zs = [a, b, c] ∧ 0 ≤ a ∧ a ≤ 2000 ∧ 0 ≤ b ∧ b ≤ 2000 ∧ 0 ≤ c ∧ c ≤ 2000 := by
  obtain ⟨hl, hs, -⟩ := h
  match zs, hl with
  | [a, b, c], _ =>
    have h1 := hs a (by simp)
    have h2 := hs b (by simp)
    have h3 := hs c (by simp)
    exact ⟨a, b, c, rfl, h1.1, h1.2, h2.1, h2.2, h3.1, h3.2⟩
/-- The middle one of three. -/
def med (a b c : Int) : Int := max (min a b) (min (max a b) c)
theorem med_two {x y z b c : Int} (h : List.Perm [y, z] [b, c]) : (y = b ∧ z = c) ∨ (y = c ∧ z = b) := by
  have hy : y ∈ [b, c] := h.subset (by simp)
  simp only [List.mem_cons, List.not_mem_nil, or_false] at hy
  rcases hy with rfl | rfl
  · have := List.Perm.cons_inv h
    simp at this
    exact .inl ⟨rfl, this⟩
  · have := List.Perm.cons_inv (h.trans (List.Perm.swap _ _ _))
    simp at this
    exact .inr ⟨rfl, this⟩
theorem med_perm {x y z a b c : Int} (hp : List.Perm [x, y, z] [a, b, c]) (h1 : x ≤ y) (h2 : y ≤ z) : y = med a b c := by
  have hx : x ∈ [a, b, c] := hp.subset (by simp)
  simp only [List.mem_cons, List.not_mem_nil, or_false] at hx
  unfold med
  rcases hx with rfl | rfl | rfl
  · rcases med_two (x := x) (List.Perm.cons_inv hp) with ⟨rfl, rfl⟩ | ⟨rfl, rfl⟩ <;> omega
  · rcases med_two (x := x) (List.Perm.cons_inv (hp.trans (List.Perm.swap _ _ _))) with ⟨rfl, rfl⟩ | ⟨rfl, rfl⟩ <;> omega
  · rcases med_two (x := x) (List.Perm.cons_inv (hp.trans ((List.Perm.swap _ _ _).cons _ |>.trans (List.Perm.swap _ _ _)))) with ⟨rfl, rfl⟩ | ⟨rfl, rfl⟩ <;> omega
/-- The middle reading of a triple. -/
def medS (zs : List Int) : Int := med (zs.getD 0 0) (zs.getD 1 0) (zs.getD 2 0)
theorem medS_in {zs : List Int} (h : triS zs) : 0 ≤ medS zs ∧ medS zs ≤ 2000 := by
  obtain ⟨a, b, c, rfl, h⟩ := triS_three h
  show 0 ≤ med a b c ∧ med a b c ≤ 2000
  unfold med
  omega
theorem medS_mem {zs : List Int} (h : triS zs) : medS zs ∈ zs := by
  obtain ⟨a, b, c, rfl, h⟩ := triS_three h
  have : med a b c = a ∨ med a b c = b ∨ med a b c = c := by unfold med; omega
  show med a b c ∈ [a, b, c]
  simp only [List.mem_cons, List.not_mem_nil, or_false]
  exact this

/-- The first k sensors that agree. -/
def agrK (zs : List Int) (q : Int) (k : Nat) : List Int := ((List.range k).filter fun i => decide (max (zs.getD i 0 - medS zs) (medS zs - zs.getD i 0) ≤ q)).map fun (i : Nat) => (i : Int)
def agr (zs : List Int) (q : Int) : List Int := agrK zs q 3
theorem agrK_yes (zs : List Int) (q : Int) (k : Nat) (h : max (zs.getD k 0 - medS zs) (medS zs - zs.getD k 0) ≤ q) : agrK zs q (k + 1) = agrK zs q k ++ [(k : Int)] := by
  unfold agrK
  rw [List.range_succ, List.filter_append, List.filter_cons, if_pos (decide_eq_true h)]
  simp
theorem agrK_no (zs : List Int) (q : Int) (k : Nat) (h : ¬ max (zs.getD k 0 - medS zs) (medS zs - zs.getD k 0) ≤ q) : agrK zs q (k + 1) = agrK zs q k := by
  unfold agrK
  rw [List.range_succ, List.filter_append, List.filter_cons, if_neg (by rw [decide_eq_true_eq]; exact h)]
  simp
theorem agrK_len (zs : List Int) (q : Int) (k : Nat) : (agrK zs q k).length ≤ k := by
  unfold agrK
  rw [List.length_map]
  exact Nat.le_trans (List.length_filter_le _ _) (by simp)
theorem agrK_mem (zs : List Int) (q : Int) (k : Nat) : ∀ x ∈ agrK zs q k, ∃ i : Nat, i < k ∧ x = i ∧ max (zs.getD i 0 - medS zs) (medS zs - zs.getD i 0) ≤ q := by
  intro x hx
  unfold agrK at hx
  simp only [List.mem_map, List.mem_filter, List.mem_range, decide_eq_true_eq] at hx
  obtain ⟨i, ⟨hi, hq⟩, rfl⟩ := hx
  exact ⟨i, hi, rfl, hq⟩

/-- The sum of the readings of the first k of some sensors. -/
def sumK (zs L : List Int) (k : Nat) : Int := ((L.take k).map fun i => zs.getD i.toNat 0).sum
theorem sumK_succ (zs L : List Int) (k : Nat) (h : k < L.length) : sumK zs L (k + 1) = sumK zs L k + zs.getD (L.getD k 0).toNat 0 := by
  unfold sumK
  rw [List.take_succ_eq_append_getElem h, List.map_append, List.sum_append]
  simp [List.getD_eq_getElem?_getD, h]
theorem serS_getD {zs : List Int} (h : serS zs) (i : Nat) : 0 ≤ zs.getD i 0 ∧ zs.getD i 0 ≤ 2000 := by
  rw [List.getD_eq_getElem?_getD]
  by_cases hi : i < zs.length
  · rw [List.getElem?_eq_getElem hi]
    exact h.1 _ (List.getElem_mem hi)
  · rw [List.getElem?_eq_none (by omega)]
    simp
theorem sumK_in {zs : List Int} (h : serS zs) (L : List Int) (k : Nat) : 0 ≤ sumK zs L k ∧ sumK zs L k ≤ 2000 * (k : Int) := by
  induction k with
  | zero => simp [sumK]
  | succ k ih =>
    by_cases hk : k < L.length
    · rw [sumK_succ _ _ _ hk]
      have := serS_getD h (L.getD k 0).toNat
      omega
    · have : sumK zs L (k + 1) = sumK zs L k := by unfold sumK; rw [List.take_of_length_le (by omega), List.take_of_length_le (by omega)]
      rw [this]
      omega
/-- How often the sensor k strays in the first j triples. -/
def strK (ts : List (List Int)) (q : Int) (j k : Nat) : Nat := ((ts.take j).filter fun t => !((agr t q).contains (k : Int))).length
theorem strK_yes (ts : List (List Int)) (q : Int) (j k : Nat) (hj : j < ts.length) (h : (agr ts[j] q).contains (k : Int) = true) : strK ts q (j + 1) k = strK ts q j k := by
  unfold strK
  rw [List.take_succ_eq_append_getElem hj, List.filter_append]
  simp at h
  simp [h]
theorem strK_no (ts : List (List Int)) (q : Int) (j k : Nat) (hj : j < ts.length) (h : (agr ts[j] q).contains (k : Int) = false) : strK ts q (j + 1) k = strK ts q j k + 1 := by
  unfold strK
  rw [List.take_succ_eq_append_getElem hj, List.filter_append]
  simp at h
  simp [h]
theorem strK_le (ts : List (List Int)) (q : Int) (j k : Nat) : strK ts q j k ≤ j := by
  unfold strK
  exact Nat.le_trans (List.length_filter_le _ _) (by simp; omega)
/-- The first greatest one of three. -/
def big3 (x y z : Nat) : Nat := if y ≤ x ∧ z ≤ x then 0 else if z ≤ y then 1 else 2
/-- The greatest and the smallest one of the first k + 1 levels. -/
def mxK (zs : List Int) : Nat → Int
  | 0 => zs.getD 0 0
  | k + 1 => max (mxK zs k) (zs.getD (k + 1) 0)
def mnK (zs : List Int) : Nat → Int
  | 0 => zs.getD 0 0
  | k + 1 => min (mnK zs k) (zs.getD (k + 1) 0)
theorem mxK_le {zs : List Int} {k : Nat} {m : Int} : mxK zs k ≤ m ↔ ∀ j, j ≤ k → zs.getD j 0 ≤ m := by
  induction k with
  | zero => simp only [mxK]; exact ⟨fun h j hj => by obtain rfl : j = 0 := by omega
                                                     exact h, fun h => h 0 (Nat.le_refl _)⟩
  | succ k ih =>
    simp only [mxK]
    rw [Int.max_le, ih]
    exact ⟨fun h j hj => by
      rcases Nat.lt_or_eq_of_le hj with h1 | rfl
      · exact h.1 j (by omega)
      · exact h.2, fun h => ⟨fun j hj => h j (by omega), h _ (Nat.le_refl _)⟩⟩
theorem le_mnK {zs : List Int} {k : Nat} {m : Int} : m ≤ mnK zs k ↔ ∀ j, j ≤ k → m ≤ zs.getD j 0 := by
  induction k with
  | zero => simp only [mnK]; exact ⟨fun h j hj => by obtain rfl : j = 0 := by omega
                                                     exact h, fun h => h 0 (Nat.le_refl _)⟩
  | succ k ih =>
    simp only [mnK]
    rw [Int.le_min, ih]
    exact ⟨fun h j hj => by
      rcases Nat.lt_or_eq_of_le hj with h1 | rfl
      · exact h.1 j (by omega)
      · exact h.2, fun h => ⟨fun j hj => h j (by omega), h _ (Nat.le_refl _)⟩⟩
theorem mxK_mem (zs : List Int) (k : Nat) : ∃ j, j ≤ k ∧ mxK zs k = zs.getD j 0 := by
  induction k with
  | zero => exact ⟨0, Nat.le_refl _, rfl⟩
  | succ k ih =>
    obtain ⟨j, hj, e⟩ := ih
    by_cases h : mxK zs k ≤ zs.getD (k + 1) 0
    · exact ⟨k + 1, Nat.le_refl _, by simp only [mxK]; omega⟩
    · exact ⟨j, by omega, by simp only [mxK]; omega⟩
theorem mnK_mem (zs : List Int) (k : Nat) : ∃ j, j ≤ k ∧ mnK zs k = zs.getD j 0 := by
  induction k with
  | zero => exact ⟨0, Nat.le_refl _, rfl⟩
  | succ k ih =>
    obtain ⟨j, hj, e⟩ := ih
    by_cases h : zs.getD (k + 1) 0 ≤ mnK zs k
    · exact ⟨k + 1, Nat.le_refl _, by simp only [mnK]; omega⟩
    · exact ⟨j, by omega, by simp only [mnK]; omega⟩
/-- The difference of the greatest and the smallest one. -/
def sprd (zs : List Int) : Int := mxK zs (zs.length - 1) - mnK zs (zs.length - 1)
theorem mn_le_mx (zs : List Int) (k : Nat) : mnK zs k ≤ mxK zs k := by
  obtain ⟨j, hj, e⟩ := mnK_mem zs k
  rw [e]
  exact mxK_le.1 (Int.le_refl _) j hj
theorem sprd_le {zs : List Int} {q : Int} (hz : 0 < zs.length) : sprd zs ≤ q ↔ ∀ i j, i < zs.length → j < zs.length → zs.getD i 0 - zs.getD j 0 ≤ q := by
  unfold sprd
  constructor
  · intro h i j hi hj
    have h1 := mxK_le.1 (Int.le_refl (mxK zs (zs.length - 1))) i (by omega)
    have h2 := le_mnK.1 (Int.le_refl (mnK zs (zs.length - 1))) j (by omega)
    omega
  · intro h
    obtain ⟨i, hi, e1⟩ := mxK_mem zs (zs.length - 1)
    obtain ⟨j, hj, e2⟩ := mnK_mem zs (zs.length - 1)
    have := h i j (by omega) (by omega)
    omega
theorem sprd_two (a b : Int) : sprd [a, b] = max (a - b) (b - a) := by
  show max a b - min a b = _
  omega

/-- The last n are there and equal. -/
def stuckB (zs : List Int) (n : Nat) : Bool := decide (n ≤ zs.length ∧ ∀ j, j < n → zs.getD (zs.length - n + j) 0 = zs.getD (zs.length - 1) 0)
theorem stuck_sprd {zs : List Int} {n : Nat} (hn : 0 < n) (hl : n ≤ zs.length) : (sprd (zs.drop (zs.length - n)) = 0) ↔ ∀ j, j < n → zs.getD (zs.length - n + j) 0 = zs.getD (zs.length - 1) 0 := by
  have hlen : (zs.drop (zs.length - n)).length = n := by simp; omega
  have hget : ∀ j, (zs.drop (zs.length - n)).getD j 0 = zs.getD (zs.length - n + j) 0 := by intro j; simp [List.getD_eq_getElem?_getD]
  have h0 : 0 ≤ sprd (zs.drop (zs.length - n)) := by unfold sprd; have := mn_le_mx (zs.drop (zs.length - n)) ((zs.drop (zs.length - n)).length - 1); omega
  have h1 := sprd_le (q := 0) (zs := zs.drop (zs.length - n)) (by omega)
  rw [hlen] at h1
  constructor
  · intro h j hj
    have h2 := (h1.1 (by omega)) j (n - 1) hj (by omega)
    have h3 := (h1.1 (by omega)) (n - 1) j (by omega) hj
    rw [hget, hget] at h2 h3
    rw [show zs.length - n + (n - 1) = zs.length - 1 by omega] at h2 h3
    omega
  · intro h
    have : sprd (zs.drop (zs.length - n)) ≤ 0 := h1.2 (fun i j hi hj => by rw [hget, hget, h i hi, h j hj]; omega)
    omega

/-- The first jump behind the place k, if there is one. -/
def jmpAt (zs : List Int) (q : Int) (i : Nat) : Prop := 0 < i ∧ i < zs.length ∧ q < max (zs.getD (i - 1) 0 - zs.getD i 0) (zs.getD i 0 - zs.getD (i - 1) 0)
instance (zs : List Int) (q : Int) (i : Nat) : Decidable (jmpAt zs q i) := by unfold jmpAt; infer_instance
/-- What JumpIn answers. -/
def JmpA (zs : List Int) (q : Int) (m : Int) (x : Bool) : Prop :=
  (x = true ∧ serS zs ∧ (0 ≤ q ∧ q ≤ 2000) ∧ ∃ i : Nat, m = i ∧ jmpAt zs q i ∧ ∀ j, j < i → ¬ jmpAt zs q j) ∨
  (x = false ∧ m = 0 ∧ (serS zs → (0 ≤ q ∧ q ≤ 2000) → ∀ j, ¬ jmpAt zs q j))

/-- The n readings from i on are calm. -/
def calm (zs : List Int) (q : Int) (i n : Nat) : Prop := i + n ≤ zs.length ∧ ∀ a b, i ≤ a → a < i + n → i ≤ b → b < i + n → zs.getD a 0 - zs.getD b 0 ≤ q
theorem calm_less {zs : List Int} {q : Int} {i n m : Nat} (h : calm zs q i n) (hm : m ≤ n) : calm zs q i m :=
  ⟨by have := h.1; omega, fun a b h1 h2 h3 h4 => h.2 a b h1 (by omega) h3 (by omega)⟩
/-- The run of n from i on is the longest from i on. -/
def isCalm (zs : List Int) (q : Int) (i n : Nat) : Prop := calm zs q i n ∧ ¬ calm zs q i (n + 1)
theorem isCalm_one {zs : List Int} {q : Int} {i n m : Nat} (h : isCalm zs q i n) (k : isCalm zs q i m) : n = m := by
  rcases Nat.lt_trichotomy n m with h1 | h1 | h1
  · exact absurd (calm_less k.1 (by omega)) h.2
  · exact h1
  · exact absurd (calm_less h.1 (by omega)) k.2
/-- The run of n from i on is the first longest one that begins before k. -/
def BestK (zs : List Int) (q : Int) (k i n : Nat) : Prop :=
  (∀ j, j < k → ¬ calm zs q j (n + 1)) ∧ ((n = 0 ∧ i = 0) ∨ (i < k ∧ 0 < n ∧ calm zs q i n ∧ ∀ j, j < i → ¬ calm zs q j n))
theorem bestK_one {zs : List Int} {q : Int} {k i n i' n' : Nat} (h : BestK zs q k i n) (h' : BestK zs q k i' n') : i = i' ∧ n = n' := by
  obtain ⟨h1, h2⟩ := h
  obtain ⟨k1, k2⟩ := h'
  have hn : n = n' := by
    rcases Nat.lt_trichotomy n n' with c | c | c
    · rcases k2 with ⟨rfl, -⟩ | ⟨a, b, c2, d⟩
      · omega
      · exact absurd (calm_less c2 (by omega)) (h1 _ a)
    · exact c
    · rcases h2 with ⟨rfl, -⟩ | ⟨a, b, c2, d⟩
      · omega
      · exact absurd (calm_less c2 (by omega)) (k1 _ a)
  subst hn
  refine ⟨?_, rfl⟩
  rcases h2 with ⟨rfl, rfl⟩ | ⟨a, b, c, d⟩
  · rcases k2 with ⟨-, rfl⟩ | ⟨a, b, -⟩
    · rfl
    · omega
  · rcases k2 with ⟨rfl, -⟩ | ⟨a', b', c', d'⟩
    · omega
    · rcases Nat.lt_trichotomy i i' with e | e | e
      · exact absurd c (d' _ e)
      · exact e
      · exact absurd c' (d _ e)
theorem bestK_zero (zs : List Int) (q : Int) : BestK zs q 0 0 0 := ⟨fun j hj => by omega, .inl ⟨rfl, rfl⟩⟩
/-- One more start: its longest run is not longer. -/
theorem bestK_stay {zs : List Int} {q : Int} {k i n : Nat} (h : BestK zs q k i n) (hk : ¬ calm zs q k (n + 1)) : BestK zs q (k + 1) i n := by
  refine ⟨fun j hj => ?_, ?_⟩
  · rcases Nat.lt_succ_iff_lt_or_eq.1 hj with h1 | rfl
    · exact h.1 j h1
    · exact hk
  · rcases h.2 with h2 | ⟨a, b, c, d⟩
    · exact .inl h2
    · exact .inr ⟨by omega, b, c, d⟩
/-- One more start: its longest run is longer. -/
theorem bestK_new {zs : List Int} {q : Int} {k i n m : Nat} (h : BestK zs q k i n) (hm : n < m) (hk : isCalm zs q k m) : BestK zs q (k + 1) k m := by
  refine ⟨fun j hj hc => ?_, .inr ⟨by omega, by omega, hk.1, fun j hj hc => h.1 j hj (calm_less hc (by omega))⟩⟩
  rcases Nat.lt_succ_iff_lt_or_eq.1 hj with h1 | rfl
  · exact h.1 j h1 (calm_less hc (by omega))
  · exact hk.2 hc
theorem calm_sprd {zs : List Int} {q : Int} {i n : Nat} (hn : 0 < n) (hl : i + n ≤ zs.length) : sprd ((zs.drop i).take n) ≤ q ↔ calm zs q i n := by
  have hlen : ((zs.drop i).take n).length = n := by simp; omega
  have hget : ∀ j, j < n → ((zs.drop i).take n).getD j 0 = zs.getD (i + j) 0 := by intro j hj; simp [List.getD_eq_getElem?_getD, List.getElem?_take, hj]
  rw [sprd_le (by omega), hlen]
  constructor
  · intro h
    refine ⟨hl, fun a b h1 h2 h3 h4 => ?_⟩
    have := h (a - i) (b - i) (by omega) (by omega)
    rw [hget _ (by omega), hget _ (by omega), show i + (a - i) = a by omega, show i + (b - i) = b by omega] at this
    exact this
  · intro h a b ha hb
    rw [hget _ ha, hget _ hb]
    exact h.2 _ _ (by omega) (by omega) (by omega) (by omega)
/-- The first k are in order. -/
def AscK (ys : List Int) (k : Nat) : Prop := ∀ p q, p < q → q < k → ys.getD p 0 ≤ ys.getD q 0
/-- The first i + 1 are in order but for the one at j, which is not greater than those behind it. -/
def AscBut (ys : List Int) (i j : Nat) : Prop := (∀ p q, p < q → q < i + 1 → p ≠ j → q ≠ j → ys.getD p 0 ≤ ys.getD q 0) ∧ ∀ q, j < q → q < i + 1 → ys.getD j 0 ≤ ys.getD q 0
theorem ascBut_start {ys : List Int} {i : Nat} (h : AscK ys i) : AscBut ys i i :=
  ⟨fun p q h1 h2 h3 h4 => h p q h1 (by omega), fun q h1 h2 => by omega⟩
theorem ascBut_end {ys : List Int} {i j : Nat} (h : AscBut ys i j) (hj : j ≤ i) (he : j = 0 ∨ ys.getD (j - 1) 0 ≤ ys.getD j 0) : AscK ys (i + 1) := by
  intro p q h1 h2
  by_cases hq : q = j
  · subst hq
    rcases he with he | he
    · omega
    · by_cases hp : p = q - 1
      · subst hp; exact he
      · exact Int.le_trans (h.1 p (q - 1) (by omega) (by omega) (by omega) (by omega)) he
  · by_cases hp : p = j
    · subst hp; exact h.2 q h1 h2
    · exact h.1 p q h1 h2 hp hq
theorem getD_set (ys : List Int) (i j : Nat) (x : Int) (hi : i < ys.length) : (ys.set i x).getD j 0 = if i = j then x else ys.getD j 0 := by
  rw [List.getD_eq_getElem?_getD, List.getElem?_set, List.getD_eq_getElem?_getD]
  by_cases h : i = j
  · subst h; simp [hi]
  · simp [h]
def swp (ys : List Int) (j : Nat) : List Int := (ys.set j (ys.getD (j - 1) 0)).set (j - 1) (ys.getD j 0)
theorem swp_len (ys : List Int) (j : Nat) : (swp ys j).length = ys.length := by simp [swp]
theorem swp_at {ys : List Int} {j : Nat} (h0 : 0 < j) (hj : j < ys.length) (q : Nat) : (swp ys j).getD q 0 = if q = j - 1 then ys.getD j 0 else if q = j then ys.getD (j - 1) 0 else ys.getD q 0 := by
  unfold swp
  rw [getD_set _ _ _ _ (by simp; omega), getD_set _ _ _ _ hj]
  repeat' split
  all_goals first | rfl | omega
theorem swp_perm {ys : List Int} {j : Nat} (h0 : 0 < j) (hj : j < ys.length) : (swp ys j).Perm ys := by
  have e1 : ys.getD (j - 1) 0 = ys[j - 1] := by simp [List.getD_eq_getElem?_getD, show j - 1 < ys.length by omega]
  have e2 : ys.getD j 0 = ys[j] := by simp [List.getD_eq_getElem?_getD, hj]
  unfold swp
  rw [e1, e2]
  exact List.set_set_perm hj (by omega)
theorem ascBut_swp {ys : List Int} {i j : Nat} (h : AscBut ys i j) (h0 : 0 < j) (hj : j ≤ i) (hi : i < ys.length) (hl : ys.getD j 0 < ys.getD (j - 1) 0) : AscBut (swp ys j) i (j - 1) := by
  have S := swp_at h0 (show j < ys.length by omega)
  refine ⟨fun p q h1 h2 h3 h4 => ?_, fun q h1 h2 => ?_⟩
  · rw [S, S, if_neg h3, if_neg h4]
    by_cases hp : p = j
    · rw [if_pos hp, if_neg (by omega)]
      exact h.1 (j - 1) q (by omega) h2 (by omega) (by omega)
    · rw [if_neg hp]
      by_cases hq : q = j
      · rw [if_pos hq]
        exact h.1 p (j - 1) (by omega) (by omega) hp (by omega)
      · rw [if_neg hq]
        exact h.1 p q h1 h2 hp hq
  · rw [S, S, if_pos rfl, if_neg (by omega)]
    by_cases hq : q = j
    · rw [if_pos hq]; omega
    · rw [if_neg hq]
      exact h.2 q (by omega) h2
/-- The smallest and the greatest one of the m from i on. -/
def Win (zs : List Int) (i m : Nat) (lo hi : Int) : Prop :=
  (∀ a, i ≤ a → a < i + m → lo ≤ zs.getD a 0 ∧ zs.getD a 0 ≤ hi) ∧ (∃ a, i ≤ a ∧ a < i + m ∧ lo = zs.getD a 0) ∧ (∃ a, i ≤ a ∧ a < i + m ∧ hi = zs.getD a 0)
theorem win_one (zs : List Int) (i : Nat) : Win zs i 1 (zs.getD i 0) (zs.getD i 0) :=
  ⟨fun a h1 h2 => by obtain rfl : a = i := by omega
                     exact ⟨Int.le_refl _, Int.le_refl _⟩, ⟨i, Nat.le_refl _, by omega, rfl⟩, ⟨i, Nat.le_refl _, by omega, rfl⟩⟩
theorem win_step {zs : List Int} {i j : Nat} {lo hi : Int} (h : Win zs i (max j 1) lo hi) : Win zs i (j + 1) (min lo (zs.getD (i + j) 0)) (max hi (zs.getD (i + j) 0)) := by
  obtain ⟨h1, ⟨a, ha1, ha2, ea⟩, ⟨b, hb1, hb2, eb⟩⟩ := h
  refine ⟨fun x hx1 hx2 => ?_, ?_, ?_⟩
  · by_cases hx : x < i + j
    · have := h1 x hx1 (by omega)
      omega
    · obtain rfl : x = i + j := by omega
      omega
  · by_cases hc : lo ≤ zs.getD (i + j) 0
    · exact ⟨a, ha1, by omega, by omega⟩
    · exact ⟨i + j, by omega, by omega, by omega⟩
  · by_cases hc : zs.getD (i + j) 0 ≤ hi
    · exact ⟨b, hb1, by omega, by omega⟩
    · exact ⟨i + j, by omega, by omega, by omega⟩
theorem win_calm {zs : List Int} {i m : Nat} {lo hi q : Int} (h : Win zs i m lo hi) (hl : i + m ≤ zs.length) : hi - lo ≤ q ↔ calm zs q i m := by
  obtain ⟨h1, ⟨a, ha1, ha2, ea⟩, ⟨b, hb1, hb2, eb⟩⟩ := h
  constructor
  · intro hq
    refine ⟨hl, fun x y h2 h3 h4 h5 => ?_⟩
    have h6 := h1 x h2 h3
    have h7 := h1 y h4 h5
    omega
  · intro hc
    have := hc.2 b a hb1 hb2 ha1 ha2
    omega
theorem win_in {zs : List Int} {i m : Nat} {lo hi : Int} (h : Win zs i m lo hi) (hs : serS zs) : 0 ≤ lo ∧ lo ≤ 2000 ∧ 0 ≤ hi ∧ hi ≤ 2000 := by
  obtain ⟨h1, ⟨a, ha1, ha2, ea⟩, ⟨b, hb1, hb2, eb⟩⟩ := h
  have h2 := serS_getD hs a
  have h3 := serS_getD hs b
  omega
theorem calm_zero {zs : List Int} {q : Int} {i : Nat} (h : i ≤ zs.length) : calm zs q i 0 := ⟨h, fun a b h1 h2 => by omega⟩
theorem calm_one {zs : List Int} {q : Int} {i : Nat} (h : i < zs.length) (hq : 0 ≤ q) : calm zs q i 1 := ⟨by omega, fun a b h1 h2 h3 h4 => by
  obtain rfl : a = i := by omega
  obtain rfl : b = a := by omega
  omega⟩
/-- What LongestCalm answers. -/
def CalA (zs : List Int) (q : Int) (i m : Int) (x : Bool) : Prop :=
  (x = true ∧ (serS zs ∧ 0 < zs.length ∧ 0 ≤ q ∧ q ≤ 2000) ∧ ∃ a b : Nat, i = a ∧ m = b ∧ BestK zs q zs.length a b) ∨ (x = false ∧ i = 0 ∧ m = 0 ∧ ¬ (serS zs ∧ 0 < zs.length ∧ 0 ≤ q ∧ q ≤ 2000))
theorem jmpA_ex (zs : List Int) (q : Int) : ∃ m x, JmpA zs q m x := by
  by_cases h : ∃ i, jmpAt zs q i
  · by_cases hs : serS zs ∧ 0 ≤ q ∧ q ≤ 2000
    · obtain ⟨i, hi⟩ := h
      have : ∃ k : Nat, k ≤ i ∧ jmpAt zs q k ∧ ∀ j, j < k → ¬ jmpAt zs q j := by
        induction i using Nat.strongRecOn with
        | ind i ih =>
          by_cases g : ∃ j, j < i ∧ jmpAt zs q j
          · obtain ⟨j, hj, hj2⟩ := g
            obtain ⟨k, h1, h2⟩ := ih j hj hj2
            exact ⟨k, by omega, h2⟩
          · exact ⟨i, Nat.le_refl _, hi, fun j hj hc => g ⟨j, hj, hc⟩⟩
      obtain ⟨k, -, h1, h2⟩ := this
      exact ⟨k, true, .inl ⟨rfl, hs.1, hs.2, k, rfl, h1, h2⟩⟩
    · exact ⟨0, false, .inr ⟨rfl, rfl, fun h1 h2 => absurd ⟨h1, h2⟩ hs⟩⟩
  · exact ⟨0, false, .inr ⟨rfl, rfl, fun _ _ j hj => h ⟨j, hj⟩⟩⟩
/-- At the place of the first jump, and only there, an answer is found. -/
theorem jmpA_hit {zs : List Int} {q m : Int} {x : Bool} {i : Nat} (h : JmpA zs q m x) (hs : serS zs) (hq : 0 ≤ q ∧ q ≤ 2000) (hi : jmpAt zs q i) (hn : ∀ j, j < i → ¬ jmpAt zs q j) : m = i ∧ x = true := by
  rcases h with ⟨rfl, -, -, k, rfl, h1, h2⟩ | ⟨rfl, rfl, h1⟩
  · rcases Nat.lt_trichotomy i k with c | rfl | c
    · exact absurd hi (h2 _ c)
    · exact ⟨rfl, rfl⟩
    · exact absurd h1 (hn _ c)
  · exact absurd hi (h1 hs hq i)
theorem jmpA_miss {zs : List Int} {q m : Int} {x : Bool} (h : JmpA zs q m x) (hn : ¬ (serS zs ∧ 0 ≤ q ∧ q ≤ 2000) ∨ ∀ j, j < zs.length → ¬ jmpAt zs q j) : m = 0 ∧ x = false := by
  rcases h with ⟨rfl, h1, h2, k, rfl, h3, h4⟩ | ⟨rfl, rfl, -⟩
  · rcases hn with hn | hn
    · exact absurd ⟨h1, h2⟩ hn
    · exact absurd h3 (hn k h3.2.1)
  · exact ⟨rfl, rfl⟩
theorem isCalm_ex (zs : List Int) (q : Int) (i : Nat) (hi : i ≤ zs.length) : ∃ m, isCalm zs q i m := by
  have : ∀ d m, calm zs q i m → zs.length + 1 - m ≤ d → ∃ m, isCalm zs q i m := by
    intro d
    induction d with
    | zero => intro m h hd; have := h.1; omega
    | succ d ih =>
      intro m h hd
      by_cases g : calm zs q i (m + 1)
      · exact ih (m + 1) g (by omega)
      · exact ⟨m, h, g⟩
  exact this _ 0 (calm_zero hi) (Nat.le_refl _)
theorem bestK_ex (zs : List Int) (q : Int) : ∀ k, k ≤ zs.length → ∃ i n, BestK zs q k i n
  | 0, _ => ⟨0, 0, bestK_zero zs q⟩
  | k + 1, hk => by
    obtain ⟨i, n, h⟩ := bestK_ex zs q k (by omega)
    by_cases g : calm zs q k (n + 1)
    · obtain ⟨m, hm⟩ := isCalm_ex zs q k (by omega)
      refine ⟨k, m, bestK_new h ?_ hm⟩
      rcases Nat.lt_or_ge n m with c | c
      · exact c
      · exact absurd (calm_less g (by omega)) hm.2
    · exact ⟨i, n, bestK_stay h g⟩
theorem calA_ex (zs : List Int) (q : Int) : ∃ i m x, CalA zs q i m x := by
  by_cases h : serS zs ∧ 0 < zs.length ∧ 0 ≤ q ∧ q ≤ 2000
  · obtain ⟨i, n, hb⟩ := bestK_ex zs q zs.length (Nat.le_refl _)
    exact ⟨i, n, true, .inl ⟨rfl, h, i, n, rfl, rfl, hb⟩⟩
  · exact ⟨0, 0, false, .inr ⟨rfl, rfl, rfl, h⟩⟩
theorem calA_yes {zs : List Int} {q i m : Int} {x : Bool} {a b : Nat} (h : CalA zs q i m x) (g : serS zs ∧ 0 < zs.length ∧ 0 ≤ q ∧ q ≤ 2000) (hb : BestK zs q zs.length a b) : i = a ∧ m = b ∧ x = true := by
  rcases h with ⟨rfl, -, a', b', rfl, rfl, h⟩ | ⟨-, -, -, h⟩
  · obtain ⟨rfl, rfl⟩ := bestK_one h hb
    exact ⟨rfl, rfl, rfl⟩
  · exact absurd g h
theorem calA_no {zs : List Int} {q i m : Int} {x : Bool} (h : CalA zs q i m x) (g : ¬ (serS zs ∧ 0 < zs.length ∧ 0 ≤ q ∧ q ≤ 2000)) : i = 0 ∧ m = 0 ∧ x = false := by
  rcases h with ⟨-, h, -⟩ | ⟨rfl, rfl, rfl, -⟩
  · exact absurd h g
  · exact ⟨rfl, rfl, rfl⟩
/-- What IsStuck answers. -/
def StkA (zs : List Int) (n : Int) (b x : Bool) : Prop := ((serS zs ∧ 2 ≤ n ∧ n ≤ 20) → b = stuckB zs n.toNat ∧ x = true) ∧ (¬ (serS zs ∧ 2 ≤ n ∧ n ≤ 20) → b = false ∧ x = false)
theorem stkA_ex (zs : List Int) (n : Int) : ∃ b x, StkA zs n b x := by
  by_cases h : serS zs ∧ 2 ≤ n ∧ n ≤ 20
  · exact ⟨_, true, fun _ => ⟨rfl, rfl⟩, fun g => absurd h g⟩
  · exact ⟨false, false, fun g => absurd g h, fun _ => ⟨rfl, rfl⟩⟩
/-- What MedianOf answers. -/
def MedA (zs : List Int) (m : Int) (x : Bool) : Prop := (triS zs → m = medS zs ∧ x = true) ∧ (¬ triS zs → m = 0 ∧ x = false)
theorem medA_ex (zs : List Int) : ∃ m x, MedA zs m x := by
  by_cases h : triS zs
  · exact ⟨_, true, fun _ => ⟨rfl, rfl⟩, fun g => absurd h g⟩
  · exact ⟨0, false, fun g => absurd g h, fun _ => ⟨rfl, rfl⟩⟩
/-- What AgreeingSensors answers. -/
def AgrA (zs : List Int) (q : Int) (L : List Int) (x : Bool) : Prop := ((triS zs ∧ 0 ≤ q ∧ q ≤ 2000) → L = agr zs q ∧ x = true) ∧ (¬ (triS zs ∧ 0 ≤ q ∧ q ≤ 2000) → L = [] ∧ x = false)
theorem agrA_ex (zs : List Int) (q : Int) : ∃ L x, AgrA zs q L x ∧ L.length ≤ 3 := by
  by_cases h : triS zs ∧ 0 ≤ q ∧ q ≤ 2000
  · exact ⟨_, true, ⟨fun _ => ⟨rfl, rfl⟩, fun g => absurd h g⟩, agrK_len _ _ _⟩
  · exact ⟨[], false, ⟨fun g => absurd g h, fun _ => ⟨rfl, rfl⟩⟩, by simp⟩
/-- What VotedLevel answers. -/
def VotA (zs : List Int) (q : Int) (m : Int) (x : Bool) : Prop :=
  ((triS zs ∧ (0 ≤ q ∧ q ≤ 2000) ∧ 2 ≤ (agr zs q).length) → m = (sumK zs (agr zs q) (agr zs q).length).tdiv ((agr zs q).length : Int) ∧ x = true) ∧ (¬ (triS zs ∧ (0 ≤ q ∧ q ≤ 2000) ∧ 2 ≤ (agr zs q).length) → m = 0 ∧ x = false)
theorem votA_ex (zs : List Int) (q : Int) : ∃ m x, VotA zs q m x := by
  by_cases h : triS zs ∧ (0 ≤ q ∧ q ≤ 2000) ∧ 2 ≤ (agr zs q).length
  · exact ⟨_, true, fun _ => ⟨rfl, rfl⟩, fun g => absurd h g⟩
  · exact ⟨0, false, fun g => absurd g h, fun _ => ⟨rfl, rfl⟩⟩
/-- What SuspectSensor answers. -/
def SusA (ts : List (List Int)) (q : Int) (m : Int) (x : Bool) : Prop :=
  (((1 ≤ ts.length ∧ ts.length ≤ 20) ∧ (0 ≤ q ∧ q ≤ 2000) ∧ (∀ t ∈ ts, triS t) ∧ 0 < max (strK ts q ts.length 0) (max (strK ts q ts.length 1) (strK ts q ts.length 2))) → m = (big3 (strK ts q ts.length 0) (strK ts q ts.length 1) (strK ts q ts.length 2) : Nat) ∧ x = true) ∧
  (¬ ((1 ≤ ts.length ∧ ts.length ≤ 20) ∧ (0 ≤ q ∧ q ≤ 2000) ∧ (∀ t ∈ ts, triS t) ∧ 0 < max (strK ts q ts.length 0) (max (strK ts q ts.length 1) (strK ts q ts.length 2))) → m = 0 ∧ x = false)
theorem susA_ex (ts : List (List Int)) (q : Int) : ∃ m x, SusA ts q m x := by
  by_cases h : (1 ≤ ts.length ∧ ts.length ≤ 20) ∧ (0 ≤ q ∧ q ≤ 2000) ∧ (∀ t ∈ ts, triS t) ∧ 0 < max (strK ts q ts.length 0) (max (strK ts q ts.length 1) (strK ts q ts.length 2))
  · exact ⟨_, true, fun _ => ⟨rfl, rfl⟩, fun g => absurd h g⟩
  · exact ⟨0, false, fun g => absurd g h, fun _ => ⟨rfl, rfl⟩⟩
end Go.Proofs.Yteeljlpbijmhlaa
