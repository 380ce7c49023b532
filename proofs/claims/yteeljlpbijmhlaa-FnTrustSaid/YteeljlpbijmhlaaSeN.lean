/- Chapter 6: bounds in common and trusted ones: the mathematics. -/
import Derived.Test.YteeljlpbijmhlaaSBound
namespace Go.Proofs.Yteeljlpbijmhlaa
set_option linter.unusedVariables false
set_option linter.unusedSimpArgs false

/-- A list of bounds. -/
def goodB (v : TBound) : Prop := 0 ≤ v.x0 ∧ v.x0 ≤ v.x1 ∧ v.x1 ≤ 2000
instance (v : TBound) : Decidable (goodB v) := by unfold goodB; infer_instance
def bndS (vs : List TBound) : Prop := (∀ v ∈ vs, goodB v) ∧ 1 ≤ vs.length ∧ vs.length ≤ 8
instance (vs : List TBound) : Decidable (bndS vs) := by unfold bndS; infer_instance
theorem bndS_at {vs : List TBound} (h : bndS vs) {i : Nat} (hi : i < vs.length) : goodB (vs.getD i noBound) := by
  rw [getBound hi]
  exact h.1 _ (List.getElem_mem hi)
/-- In how many of the first k bounds a level is. -/
def cntK (vs : List TBound) (x : Int) (k : Nat) : Nat := ((List.range k).filter fun i => decide ((vs.getD i noBound).x0 ≤ x ∧ x ≤ (vs.getD i noBound).x1)).length
def cntB (vs : List TBound) (x : Int) : Nat := cntK vs x vs.length
theorem cntK_yes {vs : List TBound} {x : Int} {k : Nat} (h : (vs.getD k noBound).x0 ≤ x ∧ x ≤ (vs.getD k noBound).x1) : cntK vs x (k + 1) = cntK vs x k + 1 := by
  unfold cntK
  rw [List.range_succ, List.filter_append, List.filter_cons, if_pos (decide_eq_true h)]
  simp
theorem cntK_no {vs : List TBound} {x : Int} {k : Nat} (h : ¬ ((vs.getD k noBound).x0 ≤ x ∧ x ≤ (vs.getD k noBound).x1)) : cntK vs x (k + 1) = cntK vs x k := by
  unfold cntK
  rw [List.range_succ, List.filter_append, List.filter_cons, if_neg (by rw [decide_eq_true_eq]; exact h)]
  simp
theorem cntK_le (vs : List TBound) (x : Int) (k : Nat) : cntK vs x k ≤ k := by
  unfold cntK
  exact Nat.le_trans (List.length_filter_le _ _) (by simp)
theorem cntK_all {vs : List TBound} {x : Int} : ∀ {k : Nat}, cntK vs x k = k ↔ ∀ i, i < k → (vs.getD i noBound).x0 ≤ x ∧ x ≤ (vs.getD i noBound).x1
  | 0 => by simp [cntK]
  | k + 1 => by
    by_cases h : (vs.getD k noBound).x0 ≤ x ∧ x ≤ (vs.getD k noBound).x1
    · rw [cntK_yes h]
      constructor
      · intro e i hi
        rcases Nat.lt_succ_iff_lt_or_eq.1 hi with h1 | rfl
        · exact cntK_all.1 (by omega) i h1
        · exact h
      · intro g
        have := (cntK_all (vs := vs) (x := x) (k := k)).2 (fun i hi => g i (by omega))
        omega
    · rw [cntK_no h]
      constructor
      · intro e
        have := cntK_le vs x k
        omega
      · intro g
        exact absurd (g k (by omega)) h
theorem cntK_pos {vs : List TBound} {x : Int} {i : Nat} : ∀ {k : Nat}, i < k → (vs.getD i noBound).x0 ≤ x ∧ x ≤ (vs.getD i noBound).x1 → 1 ≤ cntK vs x k
  | 0, h, _ => by omega
  | k + 1, h, g => by
    rcases Nat.lt_succ_iff_lt_or_eq.1 h with h1 | rfl
    · have := cntK_pos h1 g
      by_cases c : (vs.getD k noBound).x0 ≤ x ∧ x ≤ (vs.getD k noBound).x1
      · rw [cntK_yes c]; omega
      · rw [cntK_no c]; exact this
    · rw [cntK_yes g]; omega

/-- Among the first k bounds the smallest Low that is in enough, from z on; whether there is one; the greatest such High. -/
def hasK (vs : List TBound) (m : Nat) (k : Nat) : Prop := ∃ i, i < k ∧ m ≤ cntB vs (vs.getD i noBound).x0
def lowK (vs : List TBound) (m : Nat) : Nat → Int
  | 0 => 2000
  | k + 1 => if m ≤ cntB vs (vs.getD k noBound).x0 then min (lowK vs m k) (vs.getD k noBound).x0 else lowK vs m k
def highK (vs : List TBound) (m : Nat) : Nat → Int
  | 0 => 0
  | k + 1 => if m ≤ cntB vs (vs.getD k noBound).x1 then max (highK vs m k) (vs.getD k noBound).x1 else highK vs m k
instance (vs : List TBound) (m k : Nat) : Decidable (hasK vs m k) := decidable_of_iff (∃ i : Fin k, m ≤ cntB vs (vs.getD i.1 noBound).x0) ⟨fun ⟨i, h⟩ => ⟨i.1, i.2, h⟩, fun ⟨i, h, g⟩ => ⟨⟨i, h⟩, g⟩⟩
theorem hasK_zero (vs : List TBound) (m : Nat) : ¬ hasK vs m 0 := fun ⟨i, h, _⟩ => by omega
theorem hasK_yes {vs : List TBound} {m k : Nat} (h : m ≤ cntB vs (vs.getD k noBound).x0) : hasK vs m (k + 1) := ⟨k, by omega, h⟩
theorem hasK_no {vs : List TBound} {m k : Nat} (h : ¬ m ≤ cntB vs (vs.getD k noBound).x0) : hasK vs m (k + 1) ↔ hasK vs m k :=
  ⟨fun ⟨i, hi, g⟩ => by
    rcases Nat.lt_succ_iff_lt_or_eq.1 hi with h1 | rfl
    · exact ⟨i, h1, g⟩
    · exact absurd g h, fun ⟨i, hi, g⟩ => ⟨i, by omega, g⟩⟩
theorem lowK_yes {vs : List TBound} {m k : Nat} (h : m ≤ cntB vs (vs.getD k noBound).x0) : lowK vs m (k + 1) = min (lowK vs m k) (vs.getD k noBound).x0 := by simp only [lowK, if_pos h]
theorem lowK_no {vs : List TBound} {m k : Nat} (h : ¬ m ≤ cntB vs (vs.getD k noBound).x0) : lowK vs m (k + 1) = lowK vs m k := by simp only [lowK, if_neg h]
theorem highK_yes {vs : List TBound} {m k : Nat} (h : m ≤ cntB vs (vs.getD k noBound).x1) : highK vs m (k + 1) = max (highK vs m k) (vs.getD k noBound).x1 := by simp only [highK, if_pos h]
theorem highK_no {vs : List TBound} {m k : Nat} (h : ¬ m ≤ cntB vs (vs.getD k noBound).x1) : highK vs m (k + 1) = highK vs m k := by simp only [highK, if_neg h]
/-- Before there is one the smallest is where it began. -/
theorem lowK_none {vs : List TBound} {m : Nat} : ∀ {k : Nat}, ¬ hasK vs m k → lowK vs m k = 2000
  | 0, _ => rfl
  | k + 1, h => by
    by_cases c : m ≤ cntB vs (vs.getD k noBound).x0
    · exact absurd (hasK_yes c) h
    · rw [lowK_no c]; exact lowK_none (fun g => h ((hasK_no c).2 g))
theorem lowK_le {vs : List TBound} {m : Nat} : ∀ {k i : Nat}, i < k → m ≤ cntB vs (vs.getD i noBound).x0 → lowK vs m k ≤ (vs.getD i noBound).x0
  | 0, i, h, _ => by omega
  | k + 1, i, h, g => by
    rcases Nat.lt_succ_iff_lt_or_eq.1 h with h1 | rfl
    · have := lowK_le h1 g
      by_cases c : m ≤ cntB vs (vs.getD k noBound).x0
      · rw [lowK_yes c]; omega
      · rw [lowK_no c]; exact this
    · rw [lowK_yes g]; omega
theorem highK_ge {vs : List TBound} {m : Nat} : ∀ {k i : Nat}, i < k → m ≤ cntB vs (vs.getD i noBound).x1 → (vs.getD i noBound).x1 ≤ highK vs m k
  | 0, i, h, _ => by omega
  | k + 1, i, h, g => by
    rcases Nat.lt_succ_iff_lt_or_eq.1 h with h1 | rfl
    · have := highK_ge h1 g
      by_cases c : m ≤ cntB vs (vs.getD k noBound).x1
      · rw [highK_yes c]; omega
      · rw [highK_no c]; exact this
    · rw [highK_yes g]; omega
theorem lowK_mem {vs : List TBound} {m : Nat} (hs : bndS vs) : ∀ {k : Nat}, k ≤ vs.length → hasK vs m k → ∃ i, i < k ∧ m ≤ cntB vs (vs.getD i noBound).x0 ∧ lowK vs m k = (vs.getD i noBound).x0
  | 0, _, h => absurd h (hasK_zero vs m)
  | k + 1, hk, h => by
    by_cases c : m ≤ cntB vs (vs.getD k noBound).x0
    · rw [lowK_yes c]
      by_cases d : hasK vs m k
      · obtain ⟨i, hi, h1, h2⟩ := lowK_mem hs (by omega) d
        by_cases e : lowK vs m k ≤ (vs.getD k noBound).x0
        · exact ⟨i, by omega, h1, by rw [← h2]; omega⟩
        · exact ⟨k, by omega, c, by omega⟩
      · have := lowK_none d
        have g := bndS_at hs (i := k) (by omega)
        unfold goodB at g
        exact ⟨k, by omega, c, by omega⟩
    · rw [lowK_no c]
      obtain ⟨i, hi, h1, h2⟩ := lowK_mem hs (by omega) ((hasK_no c).1 h)
      exact ⟨i, by omega, h1, h2⟩
theorem lowK_in {vs : List TBound} (m : Nat) (hs : bndS vs) : ∀ {k : Nat}, k ≤ vs.length → 0 ≤ lowK vs m k ∧ lowK vs m k ≤ 2000
  | 0, _ => by simp [lowK]
  | k + 1, h => by
    have := lowK_in m hs (k := k) (by omega)
    have g := bndS_at hs (i := k) (by omega)
    unfold goodB at g
    by_cases c : m ≤ cntB vs (vs.getD k noBound).x0
    · rw [lowK_yes c]; omega
    · rw [lowK_no c]; exact this
theorem highK_in {vs : List TBound} (m : Nat) (hs : bndS vs) : ∀ {k : Nat}, k ≤ vs.length → 0 ≤ highK vs m k ∧ highK vs m k ≤ 2000
  | 0, _ => by simp [highK]
  | k + 1, h => by
    have := highK_in m hs (k := k) (by omega)
    have g := bndS_at hs (i := k) (by omega)
    unfold goodB at g
    by_cases c : m ≤ cntB vs (vs.getD k noBound).x1
    · rw [highK_yes c]; omega
    · rw [highK_no c]; exact this
/-- The Low that the model keeps. -/
def lowV (vs : List TBound) (m k : Nat) : Int := if hasK vs m k then lowK vs m k else 0
theorem lowV_zero (vs : List TBound) (m : Nat) : lowV vs m 0 = 0 := if_neg (hasK_zero vs m)
theorem lowV_no {vs : List TBound} {m k : Nat} (h : ¬ m ≤ cntB vs (vs.getD k noBound).x0) : lowV vs m (k + 1) = lowV vs m k ∧ (hasK vs m (k + 1) ↔ hasK vs m k) := by
  refine ⟨?_, hasK_no h⟩
  unfold lowV
  rw [lowK_no h]
  by_cases g : hasK vs m k
  · rw [if_pos g, if_pos ((hasK_no h).2 g)]
  · rw [if_neg g, if_neg (fun e => g ((hasK_no h).1 e))]
theorem lowV_new {vs : List TBound} {m k : Nat} (hs : bndS vs) (hk : k < vs.length) (h : m ≤ cntB vs (vs.getD k noBound).x0) (g : ¬ hasK vs m k ∨ (vs.getD k noBound).x0 < lowV vs m k) : lowV vs m (k + 1) = (vs.getD k noBound).x0 ∧ hasK vs m (k + 1) := by
  refine ⟨?_, hasK_yes h⟩
  have hb := bndS_at hs hk
  unfold goodB at hb
  rw [lowV, if_pos (hasK_yes h), lowK_yes h]
  by_cases d : hasK vs m k
  · rcases g with g | g
    · exact absurd d g
    · rw [lowV, if_pos d] at g
      omega
  · rw [lowK_none d]
    omega
theorem lowV_old {vs : List TBound} {m k : Nat} (h : m ≤ cntB vs (vs.getD k noBound).x0) (d : hasK vs m k) (g : ¬ (vs.getD k noBound).x0 < lowV vs m k) : lowV vs m (k + 1) = lowV vs m k ∧ hasK vs m (k + 1) := by
  refine ⟨?_, hasK_yes h⟩
  rw [lowV, if_pos d] at g
  rw [lowV, if_pos (hasK_yes h), lowK_yes h, lowV, if_pos d]
  omega
/-- The trusted bound of those in at least m. -/
def trB (vs : List TBound) (m : Nat) : Bool := decide (hasK vs m vs.length)
def trV (vs : List TBound) (m : Nat) : TBound := if hasK vs m vs.length then ⟨lowK vs m vs.length, highK vs m vs.length⟩ else noBound
/-- What TrustedBound answers. -/
def TruA (vs : List TBound) (f : Int) (R0 R1 : Int) (x : Bool) : Prop :=
  ((bndS vs ∧ 0 ≤ f ∧ f ≤ (vs.length : Int) - 1 ∧ hasK vs (vs.length - f.toNat) vs.length) → R0 = lowK vs (vs.length - f.toNat) vs.length ∧ R1 = highK vs (vs.length - f.toNat) vs.length ∧ x = true) ∧
  (¬ (bndS vs ∧ 0 ≤ f ∧ f ≤ (vs.length : Int) - 1 ∧ hasK vs (vs.length - f.toNat) vs.length) → R0 = 0 ∧ R1 = 0 ∧ x = false)
theorem truA_ex (vs : List TBound) (f : Int) : ∃ R0 R1 x, TruA vs f R0 R1 x := by
  by_cases h : bndS vs ∧ 0 ≤ f ∧ f ≤ (vs.length : Int) - 1 ∧ hasK vs (vs.length - f.toNat) vs.length
  · exact ⟨_, _, true, fun _ => ⟨rfl, rfl, rfl⟩, fun g => absurd h g⟩
  · exact ⟨0, 0, false, fun g => absurd g h, fun _ => ⟨rfl, rfl, rfl⟩⟩
/-- What CommonBound answers. -/
def ComA (vs : List TBound) (R0 R1 : Int) (x : Bool) : Prop :=
  ((bndS vs ∧ hasK vs vs.length vs.length) → R0 = lowK vs vs.length vs.length ∧ R1 = highK vs vs.length vs.length ∧ x = true) ∧
  (¬ (bndS vs ∧ hasK vs vs.length vs.length) → R0 = 0 ∧ R1 = 0 ∧ x = false)
theorem comA_ex (vs : List TBound) : ∃ R0 R1 x, ComA vs R0 R1 x := by
  by_cases h : bndS vs ∧ hasK vs vs.length vs.length
  · exact ⟨_, _, true, fun _ => ⟨rfl, rfl, rfl⟩, fun g => absurd h g⟩
  · exact ⟨0, 0, false, fun g => absurd g h, fun _ => ⟨rfl, rfl, rfl⟩⟩
/-- The greatest Low and the smallest High of the first k + 1. -/
def loK (vs : List TBound) : Nat → Int
  | 0 => (vs.getD 0 noBound).x0
  | k + 1 => max (loK vs k) (vs.getD (k + 1) noBound).x0
def hiK (vs : List TBound) : Nat → Int
  | 0 => (vs.getD 0 noBound).x1
  | k + 1 => min (hiK vs k) (vs.getD (k + 1) noBound).x1
theorem loK_le {vs : List TBound} {x : Int} : ∀ {k : Nat}, loK vs k ≤ x ↔ ∀ i, i ≤ k → (vs.getD i noBound).x0 ≤ x
  | 0 => ⟨fun h i hi => by obtain rfl : i = 0 := by omega
                           exact h, fun h => h 0 (Nat.le_refl _)⟩
  | k + 1 => by
    simp only [loK]
    rw [Int.max_le, loK_le]
    exact ⟨fun h i hi => by
      rcases Nat.lt_or_eq_of_le hi with h1 | rfl
      · exact h.1 i (by omega)
      · exact h.2, fun h => ⟨fun i hi => h i (by omega), h _ (Nat.le_refl _)⟩⟩
theorem le_hiK {vs : List TBound} {x : Int} : ∀ {k : Nat}, x ≤ hiK vs k ↔ ∀ i, i ≤ k → x ≤ (vs.getD i noBound).x1
  | 0 => ⟨fun h i hi => by obtain rfl : i = 0 := by omega
                           exact h, fun h => h 0 (Nat.le_refl _)⟩
  | k + 1 => by
    simp only [hiK]
    rw [Int.le_min, le_hiK]
    exact ⟨fun h i hi => by
      rcases Nat.lt_or_eq_of_le hi with h1 | rfl
      · exact h.1 i (by omega)
      · exact h.2, fun h => ⟨fun i hi => h i (by omega), h _ (Nat.le_refl _)⟩⟩
theorem loK_mem (vs : List TBound) : ∀ (k : Nat), ∃ i, i ≤ k ∧ loK vs k = (vs.getD i noBound).x0
  | 0 => ⟨0, Nat.le_refl _, rfl⟩
  | k + 1 => by
    obtain ⟨i, hi, e⟩ := loK_mem vs k
    by_cases c : loK vs k ≤ (vs.getD (k + 1) noBound).x0
    · exact ⟨k + 1, Nat.le_refl _, by simp only [loK]; omega⟩
    · exact ⟨i, by omega, by simp only [loK]; omega⟩
theorem hiK_mem (vs : List TBound) : ∀ (k : Nat), ∃ i, i ≤ k ∧ hiK vs k = (vs.getD i noBound).x1
  | 0 => ⟨0, Nat.le_refl _, rfl⟩
  | k + 1 => by
    obtain ⟨i, hi, e⟩ := hiK_mem vs k
    by_cases c : (vs.getD (k + 1) noBound).x1 ≤ hiK vs k
    · exact ⟨k + 1, Nat.le_refl _, by simp only [hiK]; omega⟩
    · exact ⟨i, by omega, by simp only [hiK]; omega⟩
theorem cnt_all {vs : List TBound} {x : Int} (hn : 0 < vs.length) : vs.length ≤ cntB vs x ↔ loK vs (vs.length - 1) ≤ x ∧ x ≤ hiK vs (vs.length - 1) := by
  have h1 := cntK_le vs x vs.length
  have h2 := cntK_all (vs := vs) (x := x) (k := vs.length)
  rw [loK_le, le_hiK]
  unfold cntB
  constructor
  · intro h
    have h3 := h2.1 (by omega)
    exact ⟨fun i hi => (h3 i (by omega)).1, fun i hi => (h3 i (by omega)).2⟩
  · intro h
    have := h2.2 (fun i hi => ⟨h.1 i (by omega), h.2 i (by omega)⟩)
    omega
/-- The bound in common is the trusted one without faults. -/
theorem trust_common {vs : List TBound} (hs : bndS vs) : (hasK vs vs.length vs.length ↔ loK vs (vs.length - 1) ≤ hiK vs (vs.length - 1)) ∧
    (loK vs (vs.length - 1) ≤ hiK vs (vs.length - 1) → lowK vs vs.length vs.length = loK vs (vs.length - 1) ∧ highK vs vs.length vs.length = hiK vs (vs.length - 1)) := by
  have hn : 0 < vs.length := by have := hs.2.1; omega
  obtain ⟨i, hi, ei⟩ := loK_mem vs (vs.length - 1)
  obtain ⟨j, hj, ej⟩ := hiK_mem vs (vs.length - 1)
  have hiff : hasK vs vs.length vs.length ↔ loK vs (vs.length - 1) ≤ hiK vs (vs.length - 1) := by
    constructor
    · rintro ⟨k, hk, hc⟩
      have := (cnt_all hn).1 hc
      omega
    · intro h
      exact ⟨i, by omega, (cnt_all hn).2 (by rw [← ei]; exact ⟨Int.le_refl _, h⟩)⟩
  refine ⟨hiff, fun h => ⟨?_, ?_⟩⟩
  · obtain ⟨k, hk, hc, e⟩ := lowK_mem hs (Nat.le_refl _) (hiff.2 h)
    have h1 := (cnt_all hn).1 hc
    have h2 := lowK_le (k := vs.length) (i := i) (by omega) ((cnt_all hn).2 (by rw [← ei]; exact ⟨Int.le_refl _, h⟩))
    omega
  · have h2 := highK_ge (k := vs.length) (i := j) (by omega) ((cnt_all hn).2 (by rw [← ej]; exact ⟨h, Int.le_refl _⟩))
    have h3 : ∀ k, k ≤ vs.length → highK vs vs.length k ≤ hiK vs (vs.length - 1) := by
      intro k
      induction k with
      | zero =>
        intro _
        have g := bndS_at hs (i := j) (by omega)
        unfold goodB at g
        simp only [highK]
        omega
      | succ k ih =>
        intro hk
        have := ih (by omega)
        by_cases c : vs.length ≤ cntB vs (vs.getD k noBound).x1
        · rw [highK_yes c]
          have := (cnt_all hn).1 c
          omega
        · rw [highK_no c]; exact this
    have := h3 vs.length (Nat.le_refl _)
    omega
/-- With one bound enough there always is one. -/
theorem has_one {vs : List TBound} (hs : bndS vs) : hasK vs 1 vs.length := by
  have hn : 0 < vs.length := by have := hs.2.1; omega
  have g := bndS_at hs (i := 0) hn
  unfold goodB at g
  exact ⟨0, hn, cntK_pos (i := 0) hn ⟨Int.le_refl _, g.2.1⟩⟩
/-- What FewestFaults answers. -/
def FewA (vs : List TBound) (m : Int) (x : Bool) : Prop :=
  (x = true ∧ bndS vs ∧ ∃ f : Nat, m = f ∧ f < vs.length ∧ hasK vs (vs.length - f) vs.length ∧ ∀ j, j < f → ¬ hasK vs (vs.length - j) vs.length) ∨ (x = false ∧ m = 0 ∧ ¬ bndS vs)
theorem fewA_ex (vs : List TBound) : ∃ m x, FewA vs m x := by
  by_cases h : bndS vs
  · have : ∀ d f, (∀ j, j < f → ¬ hasK vs (vs.length - j) vs.length) → f < vs.length → vs.length - f ≤ d → ∃ m x, FewA vs m x := by
      intro d
      induction d with
      | zero => intro f _ h1 h2; omega
      | succ d ih =>
        intro f hf h1 h2
        by_cases g : hasK vs (vs.length - f) vs.length
        · exact ⟨f, true, .inl ⟨rfl, h, f, rfl, h1, g, hf⟩⟩
        · refine ih (f + 1) (fun j hj => ?_) ?_ (by omega)
          · rcases Nat.lt_succ_iff_lt_or_eq.1 hj with c | rfl
            · exact hf j c
            · exact g
          · have h3 := has_one h
            rcases Nat.lt_or_ge (f + 1) vs.length with c | c
            · exact c
            · rw [show vs.length - f = 1 by omega] at g
              exact absurd h3 g
    have h1 := h.2.1
    exact this _ 0 (fun j hj => by omega) (by omega) (Nat.le_refl _)
  · exact ⟨0, false, .inr ⟨rfl, rfl, h⟩⟩
theorem fewA_hit {vs : List TBound} {m : Int} {x : Bool} {f : Nat} (h : FewA vs m x) (hs : bndS vs) (hf : f < vs.length) (hg : hasK vs (vs.length - f) vs.length) (hn : ∀ j, j < f → ¬ hasK vs (vs.length - j) vs.length) : m = f ∧ x = true := by
  rcases h with ⟨rfl, -, k, rfl, h1, h2, h3⟩ | ⟨-, -, h1⟩
  · rcases Nat.lt_trichotomy f k with c | rfl | c
    · exact absurd hg (h3 _ c)
    · exact ⟨rfl, rfl⟩
    · exact absurd h2 (hn _ c)
  · exact absurd hs h1
theorem fewA_miss {vs : List TBound} {m : Int} {x : Bool} (h : FewA vs m x) (hn : ¬ bndS vs ∨ ∀ j, j < vs.length → ¬ hasK vs (vs.length - j) vs.length) : m = 0 ∧ x = false := by
  rcases h with ⟨rfl, h1, k, rfl, h2, h3, -⟩ | ⟨rfl, rfl, -⟩
  · rcases hn with hn | hn
    · exact absurd h1 hn
    · exact absurd h3 (hn k h2)
  · exact ⟨rfl, rfl⟩
end Go.Proofs.Yteeljlpbijmhlaa
