/- Chapter 12: the mathematics of pumps. -/
import Derived.Test.YtdjoiodkmanacaaSPump
namespace Go.Proofs.Ytdjoiodkmanacaa
set_option linter.unusedVariables false

structure Tsk where
  lo : Int
  hi : Int
  lv : Int
  fs : List Int
  ps : List TPump
def goodU (v : TPump) : Prop := (1 ≤ v.x0 ∧ v.x0 ≤ 50) ∧ (0 ≤ v.x1 ∧ v.x1 ≤ 20) ∧ (0 ≤ v.x2 ∧ v.x2 ≤ 50)
instance (v : TPump) : Decidable (goodU v) := by unfold goodU; infer_instance
def allFl (zs : List Int) : Prop := ∀ k, k < zs.length → -50 ≤ zs.getD k 0 ∧ zs.getD k 0 ≤ 50
def allU (vs : List TPump) : Prop := ∀ k, k < vs.length → goodU (vs.getD k noPump)
def goodT (t : Tsk) : Prop := (0 ≤ t.lo ∧ t.lo ≤ t.lv ∧ t.lv ≤ t.hi ∧ t.hi ≤ 500) ∧ (1 ≤ t.fs.length ∧ t.fs.length ≤ 5) ∧ t.ps.length ≤ 2 ∧ allFl t.fs ∧ allU t.ps
noncomputable def gT (t : Tsk) : Bool := open Classical in decide (goodT t)
theorem gT_iff (t : Tsk) : gT t = true ↔ goodT t := by unfold gT; simp
theorem gT_yes {t : Tsk} (h : goodT t) : gT t = true := (gT_iff t).2 h
theorem gT_no {t : Tsk} (h : ¬ goodT t) : gT t = false := by unfold gT; simp [h]

/-- The greatest number of an hour, with m pumps. -/
def topU (m : Nat) : Int := if m = 0 then 0 else if m = 1 then 1 else 3
theorem topU_bd (m : Nat) : 0 ≤ topU m ∧ topU m ≤ 3 := by unfold topU; split <;> first | omega | (split <;> omega)
theorem topU_m (m : Nat) : (m = 0 ∧ topU m = 0) ∨ (m = 1 ∧ topU m = 1) ∨ (2 ≤ m ∧ topU m = 3) := by unfold topU; split <;> first | omega | (split <;> omega)
def inX (m : Nat) (xs : List Int) : Prop := ∀ k, k < xs.length → 0 ≤ xs.getD k 0 ∧ xs.getD k 0 ≤ topU m
def goodX (t : Tsk) (xs : List Int) : Prop := goodT t ∧ xs.length = t.fs.length ∧ inX t.ps.length xs
noncomputable def gX (t : Tsk) (xs : List Int) : Bool := open Classical in decide (goodX t xs)
theorem gX_iff (t : Tsk) (xs : List Int) : gX t xs = true ↔ goodX t xs := by unfold gX; simp
theorem gX_yes {t : Tsk} {xs : List Int} (h : goodX t xs) : gX t xs = true := (gX_iff t xs).2 h
theorem gX_no {t : Tsk} {xs : List Int} (h : ¬ goodX t xs) : gX t xs = false := by unfold gX; simp [h]
theorem inX_all {m : Nat} {xs : List Int} (h : inX m xs) (k : Nat) : 0 ≤ xs.getD k 0 ∧ xs.getD k 0 ≤ 3 := by
  by_cases e : k < xs.length
  · have := h k e; have := topU_bd m; omega
  · have : xs.getD k 0 = 0 := by rw [List.getD_eq_getElem?_getD, List.getElem?_eq_none (by omega)]; rfl
    omega

/-- The pump with index i runs. -/
def bitU (x : Int) (i : Nat) : Bool := decide (x = 3 ∨ x = (i : Int) + 1)
/-- Those in x that are not in y. -/
def andnU (x y : Int) : Int := (if bitU x 0 && !bitU y 0 then 1 else 0) + (if bitU x 1 && !bitU y 1 then 2 else 0)
def popU (x : Int) : Int := (if bitU x 0 then 1 else 0) + (if bitU x 1 then 1 else 0)
theorem four_of {x : Int} (h : 0 ≤ x ∧ x ≤ 3) : x = 0 ∨ x = 1 ∨ x = 2 ∨ x = 3 := by omega
theorem andnU_bit {x y : Int} (hx : 0 ≤ x ∧ x ≤ 3) (hy : 0 ≤ y ∧ y ≤ 3) {i : Nat} (hi : i < 2) : bitU (andnU x y) i = (bitU x i && !bitU y i) := by
  rcases four_of hx with rfl | rfl | rfl | rfl <;> rcases four_of hy with rfl | rfl | rfl | rfl <;> (match i, hi with | 0, _ => decide | 1, _ => decide)
theorem andnU_bd (x y : Int) : 0 ≤ andnU x y ∧ andnU x y ≤ 3 := by unfold andnU; split <;> split <;> omega
theorem popU_bd (x : Int) : 0 ≤ popU x ∧ popU x ≤ 2 := by unfold popU; split <;> split <;> omega
/-- The sum of a number of the first pumps that run. -/
def sumU (g : TPump → Int) (ps : List TPump) (x : Int) : Nat → Int
  | 0 => 0
  | k + 1 => sumU g ps x k + (if bitU x k then g (ps.getD k noPump) else 0)
theorem sumU_bd {g : TPump → Int} {ps : List TPump} (hu : allU ps) (hg : ∀ v, goodU v → 0 ≤ g v ∧ g v ≤ 50) (x : Int) : ∀ k, k ≤ ps.length → 0 ≤ sumU g ps x k ∧ sumU g ps x k ≤ 50 * (k : Int)
  | 0, _ => ⟨Int.le_refl _, Int.le_refl _⟩
  | k + 1, h => by
    have ih := sumU_bd hu hg x k (by omega)
    have := hg _ (hu k (by omega))
    rw [sumU]
    split <;> omega
theorem rate_bd (v : TPump) (h : goodU v) : 0 ≤ v.x0 ∧ v.x0 ≤ 50 := by have := h.1; omega
theorem cost_bd (v : TPump) (h : goodU v) : 0 ≤ v.x1 ∧ v.x1 ≤ 50 := by have := h.2.1; omega
theorem start_bd (v : TPump) (h : goodU v) : 0 ≤ v.x2 ∧ v.x2 ≤ 50 := h.2.2
def outU (t : Tsk) (x : Int) : Int := sumU TPump.x0 t.ps x t.ps.length
theorem outU_bd {t : Tsk} (h : goodT t) (x : Int) : 0 ≤ outU t x ∧ outU t x ≤ 100 := by
  have := sumU_bd h.2.2.2.2 rate_bd x t.ps.length (Nat.le_refl _)
  have := h.2.2.1
  unfold outU
  omega
/-- The level after the first hours. -/
def lvU (t : Tsk) (xs : List Int) : Nat → Int
  | 0 => t.lv
  | k + 1 => lvU t xs k + t.fs.getD k 0 - outU t (xs.getD k 0)
theorem lvU_bd {t : Tsk} (h : goodT t) (xs : List Int) : ∀ k, k ≤ t.fs.length → -150 * (k : Int) ≤ lvU t xs k ∧ lvU t xs k ≤ 500 + 50 * (k : Int)
  | 0, _ => by have := h.1; rw [lvU]; omega
  | k + 1, hk => by
    have ih := lvU_bd h xs k (by omega)
    have := h.2.2.2.1 k (by omega)
    have := outU_bd h (xs.getD k 0)
    rw [lvU]
    omega
/-- The number of the hour before. -/
def prevU (xs : List Int) : Nat → Int
  | 0 => 0
  | k + 1 => xs.getD k 0
theorem prevU_bd {m : Nat} {xs : List Int} (h : inX m xs) : ∀ k, 0 ≤ prevU xs k ∧ prevU xs k ≤ 3
  | 0 => by simp [prevU]
  | k + 1 => inX_all h k
def hcU (t : Tsk) (x y : Int) : Int := sumU TPump.x1 t.ps x t.ps.length + sumU TPump.x2 t.ps (andnU x y) t.ps.length
theorem hcU_bd {t : Tsk} (h : goodT t) (x y : Int) : 0 ≤ hcU t x y ∧ hcU t x y ≤ 200 := by
  have := sumU_bd h.2.2.2.2 cost_bd x t.ps.length (Nat.le_refl _)
  have := sumU_bd h.2.2.2.2 start_bd (andnU x y) t.ps.length (Nat.le_refl _)
  have := h.2.2.1
  unfold hcU
  omega
def costU (t : Tsk) (xs : List Int) : Nat → Int
  | 0 => 0
  | k + 1 => costU t xs k + hcU t (xs.getD k 0) (prevU xs k)
theorem costU_bd {t : Tsk} (h : goodT t) (xs : List Int) : ∀ k, 0 ≤ costU t xs k ∧ costU t xs k ≤ 200 * (k : Int)
  | 0 => ⟨Int.le_refl _, Int.le_refl _⟩
  | k + 1 => by
    have ih := costU_bd h xs k
    have := hcU_bd h (xs.getD k 0) (prevU xs k)
    rw [costU]
    omega
def startU (xs : List Int) : Nat → Int
  | 0 => 0
  | k + 1 => startU xs k + popU (andnU (xs.getD k 0) (prevU xs k))
theorem startU_bd (xs : List Int) : ∀ k, 0 ≤ startU xs k ∧ startU xs k ≤ 2 * (k : Int)
  | 0 => ⟨Int.le_refl _, Int.le_refl _⟩
  | k + 1 => by
    have ih := startU_bd xs k
    have := popU_bd (andnU (xs.getD k 0) (prevU xs k))
    rw [startU]
    omega
def waterU (t : Tsk) (xs : List Int) : Nat → Int
  | 0 => 0
  | k + 1 => waterU t xs k + outU t (xs.getD k 0)
theorem waterU_bd {t : Tsk} (h : goodT t) (xs : List Int) : ∀ k, 0 ≤ waterU t xs k ∧ waterU t xs k ≤ 100 * (k : Int)
  | 0 => ⟨Int.le_refl _, Int.le_refl _⟩
  | k + 1 => by
    have ih := waterU_bd h xs k
    have := outU_bd h (xs.getD k 0)
    rw [waterU]
    omega
/-- Within the bounds after one hour, after the first hours. -/
def okL (t : Tsk) (z : Int) : Prop := t.lo ≤ z ∧ z ≤ t.hi
instance (t : Tsk) (z : Int) : Decidable (okL t z) := by unfold okL; infer_instance
def safeN (t : Tsk) (xs : List Int) (n : Nat) : Prop := ∀ j, j < n → okL t (lvU t xs (j + 1))
noncomputable def safeB (t : Tsk) (xs : List Int) (n : Nat) : Bool := open Classical in decide (safeN t xs n)
theorem safeB_iff (t : Tsk) (xs : List Int) (n : Nat) : safeB t xs n = true ↔ safeN t xs n := by unfold safeB; simp
theorem safeN_succ {t : Tsk} {xs : List Int} {n : Nat} : safeN t xs (n + 1) ↔ safeN t xs n ∧ okL t (lvU t xs (n + 1)) := by
  constructor
  · exact fun h => ⟨fun j hj => h j (by omega), h n (by omega)⟩
  · rintro ⟨h1, h2⟩ j hj
    rcases Nat.lt_succ_iff_lt_or_eq.1 hj with h | h
    · exact h1 j h
    · exact h ▸ h2
/-- k is the first hour that is not safe. -/
def fstU (t : Tsk) (xs : List Int) (n k : Nat) : Prop := k < n ∧ safeN t xs k ∧ ¬ okL t (lvU t xs (k + 1))
theorem fstU_no {t : Tsk} {xs : List Int} {n k : Nat} (h : fstU t xs n k) : ¬ safeN t xs n := fun g => h.2.2 (g k h.1)
theorem fstU_ex {t : Tsk} {xs : List Int} : ∀ {n : Nat}, ¬ safeN t xs n → ∃ k, fstU t xs n k
  | 0, h => absurd (fun j hj => absurd hj (by omega)) h
  | n + 1, h => by
    by_cases e : safeN t xs n
    · exact ⟨n, by omega, e, fun g => h (safeN_succ.2 ⟨e, g⟩)⟩
    · obtain ⟨k, h1, h2⟩ := fstU_ex e
      exact ⟨k, by omega, h2⟩
theorem fstU_one {t : Tsk} {xs : List Int} {n k j : Nat} (h : fstU t xs n k) (g : fstU t xs n j) : k = j := by
  rcases Nat.lt_trichotomy k j with e | e | e
  · exact absurd (g.2.1 k e) h.2.2
  · exact e
  · exact absurd (h.2.1 j e) g.2.2
theorem getD_pre (P R : List Int) {k : Nat} (h : k < P.length) : (P ++ R).getD k 0 = P.getD k 0 := by
  rw [List.getD_eq_getElem?_getD, List.getD_eq_getElem?_getD, List.getElem?_append_left h]
/-- The hours ahead of the last one do not lean on it. -/
theorem lvU_app (t : Tsk) (P R : List Int) : ∀ k, k ≤ P.length → lvU t (P ++ R) k = lvU t P k
  | 0, _ => rfl
  | k + 1, h => by
    rw [lvU, lvU, lvU_app t P R k (by omega), getD_pre P R (by omega)]
theorem prevU_app (P R : List Int) : ∀ k, k ≤ P.length → prevU (P ++ R) k = prevU P k
  | 0, _ => rfl
  | k + 1, h => by rw [prevU, prevU, getD_pre P R (by omega)]
theorem costU_app (t : Tsk) (P R : List Int) : ∀ k, k ≤ P.length → costU t (P ++ R) k = costU t P k
  | 0, _ => rfl
  | k + 1, h => by
    rw [costU, costU, costU_app t P R k (by omega), prevU_app P R k (by omega), getD_pre P R (by omega)]
theorem safeN_app {t : Tsk} {P R : List Int} {n : Nat} (h : n ≤ P.length) : safeN t (P ++ R) n ↔ safeN t P n := by
  unfold safeN
  constructor
  · intro g j hj; have := g j hj; rwa [lvU_app t P R (j + 1) (by omega)] at this
  · intro g j hj; rw [lvU_app t P R (j + 1) (by omega)]; exact g j hj
theorem getD_mid (P R : List Int) (x : Int) : (P ++ x :: R).getD P.length 0 = x := by
  rw [List.getD_eq_getElem?_getD, List.getElem?_append_right (Nat.le_refl _)]; simp
theorem lvU_snoc (t : Tsk) (P : List Int) (x : Int) : lvU t (P ++ [x]) (P.length + 1) = lvU t P P.length + t.fs.getD P.length 0 - outU t x := by
  rw [lvU, lvU_app t P [x] _ (Nat.le_refl _), getD_mid]
theorem costU_snoc (t : Tsk) (P : List Int) (x : Int) : costU t (P ++ [x]) (P.length + 1) = costU t P P.length + hcU t x (prevU P P.length) := by
  rw [costU, costU_app t P [x] _ (Nat.le_refl _), prevU_app P [x] _ (Nat.le_refl _), getD_mid]
theorem costU_mono {t : Tsk} (h : goodT t) (xs : List Int) {j : Nat} : ∀ {k : Nat}, j ≤ k → costU t xs j ≤ costU t xs k
  | 0, e => by obtain rfl : j = 0 := by omega
               exact Int.le_refl _
  | k + 1, e => by
    rcases Nat.lt_or_eq_of_le e with e | rfl
    · have ih := costU_mono h xs (j := j) (k := k) (by omega)
      have := hcU_bd h (xs.getD k 0) (prevU xs k)
      rw [costU]
      omega
    · exact Int.le_refl _
theorem inX_snoc {m : Nat} {P : List Int} {x : Int} (h : inX m P) (hx : 0 ≤ x ∧ x ≤ topU m) : inX m (P ++ [x]) := by
  intro k hk
  rw [List.length_append, List.length_singleton] at hk
  by_cases e : k < P.length
  · rw [List.getD_eq_getElem?_getD, List.getElem?_append_left e, ← List.getD_eq_getElem?_getD]; exact h k e
  · obtain rfl : k = P.length := by omega
    rw [getD_mid]; exact hx

/-- All plans that go on from P, with f more of the numbers below M. -/
def extsU (M : Nat) : Nat → List Int → List (List Int)
  | 0, P => [P]
  | f + 1, P => (List.range M).flatMap fun i : Nat => extsU M f (P ++ [(i : Int)])
def extKU (M f : Nat) (P : List Int) (k : Nat) : List (List Int) := (List.range k).flatMap fun i : Nat => extsU M f (P ++ [(i : Int)])
theorem extKU_zero (M f : Nat) (P : List Int) : extKU M f P 0 = [] := rfl
theorem extKU_end (M f : Nat) (P : List Int) : extKU M f P M = extsU M (f + 1) P := rfl
theorem extKU_succ (M f : Nat) (P : List Int) (k : Nat) : extKU M f P (k + 1) = extKU M f P k ++ extsU M f (P ++ [(k : Int)]) := by
  unfold extKU; rw [List.range_succ, List.flatMap_append]; simp
theorem extsU_pre {M : Nat} : ∀ {f : Nat} {P O : List Int}, O ∈ extsU M f P → ∃ R, O = P ++ R ∧ R.length = f
  | 0, P, O, h => ⟨[], by simpa [extsU] using h, rfl⟩
  | f + 1, P, O, h => by
    obtain ⟨i, -, h⟩ := List.mem_flatMap.1 h
    obtain ⟨R, rfl, hR⟩ := extsU_pre h
    exact ⟨(i : Int) :: R, by simp, by simp [hR]⟩
theorem extsU_in {M m : Nat} (hM : (M : Int) = topU m + 1) : ∀ {f : Nat} {P O : List Int}, inX m P → O ∈ extsU M f P → inX m O
  | 0, P, O, hP, h => by obtain rfl : O = P := by simpa [extsU] using h
                         exact hP
  | f + 1, P, O, hP, h => by
    obtain ⟨i, hi, h⟩ := List.mem_flatMap.1 h
    exact extsU_in hM (inX_snoc hP (by have := List.mem_range.1 hi; omega)) h
theorem extsU_all {M m : Nat} (hM : (M : Int) = topU m + 1) : ∀ (R P : List Int), inX m R → P ++ R ∈ extsU M R.length P
  | [], P, _ => by simp [extsU]
  | z :: R, P, h => by
    have h0 : 0 ≤ z ∧ z ≤ topU m := h 0 (by simp)
    have ih := extsU_all hM R (P ++ [z]) (fun k hk => h (k + 1) (by simp; omega))
    rw [List.length_cons, extsU, List.mem_flatMap]
    refine ⟨z.toNat, List.mem_range.2 (by omega), ?_⟩
    rw [show ((z.toNat : Nat) : Int) = z by omega]
    rwa [List.append_assoc] at ih
/-- The cheaper of two: the first one, unless the second is safe and costs less. -/
def stepU (a b : List Int × Int) : List Int × Int := if 0 ≤ b.2 ∧ (a.2 < 0 ∨ b.2 < a.2) then b else a
theorem stepU_none (a b : List Int × Int) (h : b.2 < 0) : stepU a b = a := by unfold stepU; exact if_neg (by omega)
theorem stepU_assoc (a b c : List Int × Int) : stepU (stepU a b) c = stepU a (stepU b c) := by
  unfold stepU
  by_cases h1 : 0 ≤ b.2 ∧ (a.2 < 0 ∨ b.2 < a.2)
  · rw [if_pos h1]
    by_cases h2 : 0 ≤ c.2 ∧ (b.2 < 0 ∨ c.2 < b.2)
    · rw [if_pos h2, if_pos (show 0 ≤ c.2 ∧ (a.2 < 0 ∨ c.2 < a.2) by omega)]
    · rw [if_neg h2, if_pos h1]
  · rw [if_neg h1]
    by_cases h2 : 0 ≤ c.2 ∧ (b.2 < 0 ∨ c.2 < b.2)
    · rw [if_pos h2]
    · rw [if_neg h2, if_neg h1, if_neg (show ¬ (0 ≤ c.2 ∧ (a.2 < 0 ∨ c.2 < a.2)) by omega)]
theorem foldU (l : List (List Int × Int)) : ∀ a, l.foldl stepU a = stepU a (l.foldl stepU ([], -1)) := by
  induction l with
  | nil => intro a; rw [List.foldl_nil, List.foldl_nil, stepU_none _ _ (by show (-1 : Int) < 0; omega)]
  | cons x l ih => intro a; rw [List.foldl_cons, List.foldl_cons, ih (stepU a x), ih (stepU ([], -1) x), stepU_assoc a, stepU_assoc ([], -1), ← stepU_assoc a ([], -1), stepU_none a ([], -1) (by show (-1 : Int) < 0; omega)]
/-- What a plan costs, or -1 if it is not safe. -/
noncomputable def valU (t : Tsk) (o : List Int) : Int := if safeB t o o.length then costU t o o.length else -1
noncomputable def bestU (t : Tsk) (E : List (List Int)) : List Int × Int := (E.map fun o => (o, valU t o)).foldl stepU ([], -1)
theorem bestU_nil (t : Tsk) : bestU t [] = ([], -1) := rfl
theorem bestU_append (t : Tsk) (E F : List (List Int)) : bestU t (E ++ F) = stepU (bestU t E) (bestU t F) := by
  unfold bestU
  rw [List.map_append, List.foldl_append, foldU]
def SafO (t : Tsk) (O : List Int) : Prop := safeN t O O.length
theorem valU_yes {t : Tsk} {O : List Int} (h : SafO t O) : valU t O = costU t O O.length := by unfold valU; exact if_pos ((safeB_iff _ _ _).2 h)
theorem valU_no {t : Tsk} {O : List Int} (h : ¬ SafO t O) : valU t O = -1 := by unfold valU; exact if_neg (fun g => h ((safeB_iff _ _ _).1 g))
theorem bestU_one {t : Tsk} (hg : goodT t) {O : List Int} (h : SafO t O) : bestU t [O] = (O, costU t O O.length) := by
  show stepU ([], -1) (O, valU t O) = _
  rw [valU_yes h]
  have := costU_bd hg O O.length
  unfold stepU
  exact if_pos ⟨this.1, .inl (by show (-1 : Int) < 0; omega)⟩
theorem bestU_no {t : Tsk} {O : List Int} (h : ¬ SafO t O) : bestU t [O] = ([], -1) := by
  show stepU ([], -1) (O, valU t O) = _
  rw [valU_no h]
  exact stepU_none _ _ (by show (-1 : Int) < 0; omega)
/-- The best of some plans: none is safe, or it is a safe one that costs least. -/
theorem bestU_of {t : Tsk} (hg : goodT t) : ∀ E : List (List Int), ((∀ O ∈ E, ¬ SafO t O) ∧ bestU t E = ([], -1)) ∨
    (∃ O ∈ E, SafO t O ∧ bestU t E = (O, costU t O O.length) ∧ ∀ Q ∈ E, SafO t Q → costU t O O.length ≤ costU t Q Q.length)
  | [] => .inl ⟨by simp, rfl⟩
  | O :: E => by
    have e : bestU t (O :: E) = stepU (bestU t [O]) (bestU t E) := bestU_append t [O] E
    have hc := costU_bd hg O O.length
    by_cases h : SafO t O
    · rw [bestU_one hg h] at e
      rcases bestU_of hg E with ⟨h1, h2⟩ | ⟨Q, h1, h2, h3, h4⟩
      · rw [h2, stepU_none _ _ (by show (-1 : Int) < 0; omega)] at e
        refine .inr ⟨O, List.mem_cons_self, h, e, fun Q hQ hs => ?_⟩
        rcases List.mem_cons.1 hQ with rfl | hQ
        · exact Int.le_refl _
        · exact absurd hs (h1 Q hQ)
      · rw [h3] at e
        have hq := costU_bd hg Q Q.length
        unfold stepU at e
        by_cases hl : costU t Q Q.length < costU t O O.length
        · rw [if_pos ⟨hq.1, .inr hl⟩] at e
          refine .inr ⟨Q, List.mem_cons_of_mem _ h1, h2, e, fun R hR hs => ?_⟩
          rcases List.mem_cons.1 hR with rfl | hR
          · omega
          · exact h4 R hR hs
        · rw [if_neg (by dsimp only; omega)] at e
          refine .inr ⟨O, List.mem_cons_self, h, e, fun R hR hs => ?_⟩
          rcases List.mem_cons.1 hR with rfl | hR
          · exact Int.le_refl _
          · have := h4 R hR hs; omega
    · rw [bestU_no h] at e
      rcases bestU_of hg E with ⟨h1, h2⟩ | ⟨Q, h1, h2, h3, h4⟩
      · rw [h2, stepU_none _ _ (by show (-1 : Int) < 0; omega)] at e
        refine .inl ⟨fun Q hQ => ?_, e⟩
        rcases List.mem_cons.1 hQ with rfl | hQ
        · exact h
        · exact h1 Q hQ
      · rw [h3] at e
        have hq := costU_bd hg Q Q.length
        unfold stepU at e
        rw [if_pos ⟨hq.1, .inl (by show (-1 : Int) < 0; omega)⟩] at e
        refine .inr ⟨Q, List.mem_cons_of_mem _ h1, h2, e, fun R hR hs => ?_⟩
        rcases List.mem_cons.1 hR with rfl | hR
        · exact absurd hs h
        · exact h4 R hR hs
theorem SafO_pre {t : Tsk} {P R : List Int} (h : SafO t (P ++ R)) : SafO t P := by
  have : safeN t (P ++ R) P.length := fun j hj => h j (by rw [List.length_append]; omega)
  exact (safeN_app (Nat.le_refl _)).1 this
/-- What goes on from a plan that is not safe. -/
theorem bestU_bad {t : Tsk} (hg : goodT t) {M f : Nat} {P : List Int} (h : ¬ SafO t P) : bestU t (extsU M f P) = ([], -1) := by
  rcases bestU_of hg (extsU M f P) with ⟨-, e⟩ | ⟨O, hO, hs, -⟩
  · exact e
  · obtain ⟨R, rfl, -⟩ := extsU_pre hO
    exact absurd (SafO_pre hs) h
/-- What goes on from a plan that costs as much already. -/
theorem bestU_dear {t : Tsk} (hg : goodT t) {M f : Nat} {P : List Int} {a : List Int × Int} (h0 : 0 ≤ a.2) (h : a.2 ≤ costU t P P.length) : stepU a (bestU t (extsU M f P)) = a := by
  rcases bestU_of hg (extsU M f P) with ⟨-, e⟩ | ⟨O, hO, -, e, -⟩
  · exact stepU_none _ _ (by rw [e]; show (-1 : Int) < 0; omega)
  · obtain ⟨R, rfl, -⟩ := extsU_pre hO
    have h1 := costU_mono hg (P ++ R) (j := P.length) (k := (P ++ R).length) (by rw [List.length_append]; omega)
    rw [costU_app t P R _ (Nat.le_refl _)] at h1
    rw [e]
    unfold stepU
    exact if_neg (by dsimp only; omega)
theorem stepU_pos {a b : List Int × Int} (h : 0 ≤ a.2) : 0 ≤ (stepU a b).2 ∧ (stepU a b).2 ≤ a.2 := by unfold stepU; split <;> omega
/-- The cheapest of all plans. -/
def numM (m : Nat) : Nat := if m = 0 then 1 else if m = 1 then 2 else 4
theorem numM_top (m : Nat) : (numM m : Int) = topU m + 1 := by unfold numM topU; split <;> first | rfl | (split <;> rfl)
abbrev numU (t : Tsk) : Nat := numM t.ps.length
theorem numU_top (t : Tsk) : (numU t : Int) = topU t.ps.length + 1 := numM_top _
noncomputable def cheapU (t : Tsk) : List Int × Int := bestU t (extsU (numU t) t.fs.length [])
theorem cheapU_of {t : Tsk} (hg : goodT t) : ((∀ O, goodX t O → ¬ SafO t O) ∧ cheapU t = ([], -1)) ∨
    (∃ O, goodX t O ∧ SafO t O ∧ cheapU t = (O, costU t O O.length) ∧ ∀ Q, goodX t Q → SafO t Q → costU t O O.length ≤ costU t Q Q.length) := by
  have hin : ∀ Q, goodX t Q → Q ∈ extsU (numU t) t.fs.length [] := fun Q hQ => by
    have := extsU_all (numU_top t) Q [] hQ.2.2
    rwa [hQ.2.1] at this
  rcases bestU_of hg (extsU (numU t) t.fs.length []) with ⟨h1, h2⟩ | ⟨O, h1, h2, h3, h4⟩
  · exact .inl ⟨fun O hO => h1 O (hin O hO), h2⟩
  · refine .inr ⟨O, ⟨hg, ?_, extsU_in (numU_top t) (fun k hk => absurd hk (by simp)) h1⟩, h2, h3, fun Q hQ hs => h4 Q (hin Q hQ) hs⟩
    obtain ⟨R, rfl, hR⟩ := extsU_pre h1
    simpa using hR

/-- What the functions answer. -/
def lvsU (t : Tsk) (xs : List Int) (n : Nat) : List Int := (List.range n).map fun k => lvU t xs (k + 1)
theorem lvsU_len (t : Tsk) (xs : List Int) (n : Nat) : (lvsU t xs n).length = n := by simp [lvsU]
theorem lvsU_succ (t : Tsk) (xs : List Int) (n : Nat) : lvsU t xs (n + 1) = lvsU t xs n ++ [lvU t xs (n + 1)] := by unfold lvsU; rw [List.range_succ, List.map_append]; rfl
theorem lvsU_at (t : Tsk) (xs : List Int) {n k : Nat} (h : k < n) : (lvsU t xs n).getD k 0 = lvU t xs (k + 1) := by
  rw [List.getD_eq_getElem?_getD]; simp [lvsU, h]
def LvsA (t : Tsk) (xs : List Int) (L : List Int) (x : Bool) : Prop := (goodX t xs → L = lvsU t xs xs.length ∧ x = true) ∧ (¬ goodX t xs → L = [] ∧ x = false)
theorem lvsA_ex (t : Tsk) (xs : List Int) : ∃ L x, LvsA t xs L x := by
  by_cases e : goodX t xs
  · exact ⟨_, true, fun _ => ⟨rfl, rfl⟩, fun h => absurd e h⟩
  · exact ⟨[], false, fun h => absurd h e, fun _ => ⟨rfl, rfl⟩⟩
theorem LvsA.len {t : Tsk} {xs L : List Int} {x : Bool} (h : LvsA t xs L x) : L.length ≤ 5 := by
  by_cases e : goodX t xs
  · rw [(h.1 e).1, lvsU_len, e.2.1]; exact e.1.2.1.2
  · rw [(h.2 e).1]; simp
def SafA (t : Tsk) (xs : List Int) (b x : Bool) : Prop := (goodX t xs → (b = true ↔ SafO t xs) ∧ x = true) ∧ (¬ goodX t xs → b = false ∧ x = false)
theorem safA_ex (t : Tsk) (xs : List Int) : ∃ b x, SafA t xs b x := by
  by_cases e : goodX t xs
  · exact ⟨safeB t xs xs.length, true, fun _ => ⟨safeB_iff _ _ _, rfl⟩, fun h => absurd e h⟩
  · exact ⟨false, false, fun h => absurd h e, fun _ => ⟨rfl, rfl⟩⟩
def NumA (v : Int) (t : Tsk) (xs : List Int) (z : Int) (x : Bool) : Prop := (goodX t xs → z = v ∧ x = true) ∧ (¬ goodX t xs → z = 0 ∧ x = false)
theorem numA_ex (v : Int) (t : Tsk) (xs : List Int) : ∃ z x, NumA v t xs z x := by
  by_cases e : goodX t xs
  · exact ⟨_, true, fun _ => ⟨rfl, rfl⟩, fun h => absurd e h⟩
  · exact ⟨0, false, fun h => absurd h e, fun _ => ⟨rfl, rfl⟩⟩
def FstA (t : Tsk) (xs : List Int) (z : Int) (x : Bool) : Prop := (goodX t xs ∧ ¬ SafO t xs → ∃ k, fstU t xs xs.length k ∧ z = (k : Int) ∧ x = true) ∧ (¬ (goodX t xs ∧ ¬ SafO t xs) → z = 0 ∧ x = false)
theorem fstA_ex (t : Tsk) (xs : List Int) : ∃ z x, FstA t xs z x := by
  by_cases e : goodX t xs ∧ ¬ SafO t xs
  · obtain ⟨k, hk⟩ := fstU_ex e.2
    exact ⟨(k : Int), true, fun _ => ⟨k, hk, rfl, rfl⟩, fun h => absurd e h⟩
  · exact ⟨0, false, fun h => absurd h e, fun _ => ⟨rfl, rfl⟩⟩
def CheA (t : Tsk) (L : List Int) (z : Int) (x : Bool) : Prop := (goodT t ∧ 0 ≤ (cheapU t).2 → L = (cheapU t).1 ∧ z = (cheapU t).2 ∧ x = true) ∧ (¬ (goodT t ∧ 0 ≤ (cheapU t).2) → L = [] ∧ z = 0 ∧ x = false)
theorem cheA_ex (t : Tsk) : ∃ L z x, CheA t L z x := by
  by_cases e : goodT t ∧ 0 ≤ (cheapU t).2
  · exact ⟨_, _, true, fun _ => ⟨rfl, rfl, rfl⟩, fun h => absurd e h⟩
  · exact ⟨[], 0, false, fun h => absurd h e, fun _ => ⟨rfl, rfl, rfl⟩⟩
theorem CheA.len {t : Tsk} {L : List Int} {z : Int} {x : Bool} (h : CheA t L z x) : L.length ≤ 5 := by
  by_cases e : goodT t ∧ 0 ≤ (cheapU t).2
  · rw [(h.1 e).1]
    rcases cheapU_of e.1 with ⟨-, h2⟩ | ⟨O, h1, -, h3, -⟩
    · rw [h2]; simp
    · rw [h3]; show O.length ≤ 5; rw [h1.2.1]; exact e.1.2.1.2
  · rw [(h.2 e).1]; simp
/-- A task without the pump with an index. -/
def woT (t : Tsk) (i : Nat) : Tsk := ⟨t.lo, t.hi, t.lv, t.fs, t.ps.take i ++ t.ps.drop (i + 1)⟩
def noT : Tsk := ⟨0, 0, 0, [], []⟩
def canW (t : Tsk) (i : Int) : Prop := goodT t ∧ 0 ≤ i ∧ i ≤ (t.ps.length : Int) - 1
def WouA (t : Tsk) (i : Int) (s : Tsk) (x : Bool) : Prop := (canW t i → s = woT t i.toNat ∧ x = true) ∧ (¬ canW t i → s = noT ∧ x = false)
theorem wouA_ex (t : Tsk) (i : Int) : ∃ s x, WouA t i s x := by
  by_cases e : canW t i
  · exact ⟨_, true, fun _ => ⟨rfl, rfl⟩, fun h => absurd e h⟩
  · exact ⟨noT, false, fun h => absurd h e, fun _ => ⟨rfl, rfl⟩⟩
end Go.Proofs.Ytdjoiodkmanacaa
