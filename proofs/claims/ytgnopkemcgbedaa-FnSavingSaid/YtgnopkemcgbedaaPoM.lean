/- Chapter 11: the mathematics of saving basins. -/
import Derived.Test.YtgnopkemcgbedaaSPool
namespace Go.Proofs.Ytgnopkemcgbedaa
set_option linter.unusedVariables false

def goodP (v : TPool) : Prop := (1 ≤ v.x0 ∧ v.x0 ≤ 100) ∧ (0 ≤ v.x1 ∧ v.x1 ≤ 2000) ∧ (0 ≤ v.x2 ∧ v.x2 ≤ 100000)
instance (v : TPool) : Decidable (goodP v) := by unfold goodP; infer_instance
def goodPs (vs : List TPool) : Prop := (2 ≤ vs.length ∧ vs.length ≤ 5) ∧ ∀ k, k < vs.length → goodP (vs.getD k noPool)
noncomputable def gPs (vs : List TPool) : Bool := open Classical in decide (goodPs vs)
theorem gPs_iff (vs : List TPool) : gPs vs = true ↔ goodPs vs := by unfold gPs; simp
theorem gPs_yes {vs : List TPool} (h : goodPs vs) : gPs vs = true := (gPs_iff vs).2 h
theorem gPs_no {vs : List TPool} (h : ¬ goodPs vs) : gPs vs = false := by unfold gPs; simp [h]

/-- The level times the Area; the difference of two levels times both Areas; the volume that flows. -/
def hgt (v : TPool) : Int := v.x1 * v.x0 + v.x2
def apart (a b : TPool) : Int := hgt a * b.x0 - hgt b * a.x0
def flo (a b : TPool) : Int := min a.x2 (max (apart a b) 0 / (a.x0 + b.x0))
theorem mul_bdP {x y X Y : Int} (hx : 0 ≤ x ∧ x ≤ X) (hy : 0 ≤ y ∧ y ≤ Y) : 0 ≤ x * y ∧ x * y ≤ X * Y := by
  refine ⟨Int.mul_nonneg hx.1 hy.1, Int.le_trans (Int.mul_le_mul_of_nonneg_right hx.2 hy.1) (Int.mul_le_mul_of_nonneg_left hy.2 (by omega))⟩
theorem hgt_bd {v : TPool} (h : goodP v) : 0 ≤ hgt v ∧ hgt v ≤ 300000 ∧ 0 ≤ v.x1 * v.x0 ∧ v.x1 * v.x0 ≤ 200000 := by
  obtain ⟨h1, h2, h3⟩ := h
  have := mul_bdP h2 (show 0 ≤ v.x0 ∧ v.x0 ≤ 100 by omega)
  unfold hgt
  omega
theorem pr_bd {a b : TPool} (ha : goodP a) (hb : goodP b) : 0 ≤ hgt a * b.x0 ∧ hgt a * b.x0 ≤ 30000000 := by
  have h1 := hgt_bd ha
  exact mul_bdP ⟨h1.1, h1.2.1⟩ (show 0 ≤ b.x0 ∧ b.x0 ≤ 100 by have := hb.1; omega)
theorem div_bdP {x y X : Int} (hx : 0 ≤ x ∧ x ≤ X) (hy : 0 < y) : 0 ≤ x / y ∧ x / y ≤ X := by
  refine ⟨Int.ediv_nonneg hx.1 (by omega), Int.le_trans (Int.ediv_le_self _ hx.1) hx.2⟩
theorem flo_bd {a b : TPool} (ha : goodP a) (hb : goodP b) : 0 ≤ flo a b ∧ flo a b ≤ a.x2 := by
  have h1 := pr_bd ha hb
  have h2 := pr_bd hb ha
  have h3 := ha.2.2
  have h4 := ha.1
  have h5 := hb.1
  have := div_bdP (x := max (apart a b) 0) (y := a.x0 + b.x0) (X := 30000000) (by unfold apart; omega) (by omega)
  unfold flo
  omega
/-- With one unit more the level of a would become lower than that of b. -/
theorem flo_le {a b : TPool} (ha : goodP a) (hb : goodP b) : flo a b * (a.x0 + b.x0) ≤ max (apart a b) 0 := by
  have h4 := ha.1
  have h5 := hb.1
  have h := Int.ediv_mul_le (max (apart a b) 0) (show a.x0 + b.x0 ≠ 0 by omega)
  refine Int.le_trans (Int.mul_le_mul_of_nonneg_right ?_ (by omega)) h
  unfold flo; omega
theorem flo_lt {a b : TPool} (ha : goodP a) (hb : goodP b) : flo a b = a.x2 ∨ max (apart a b) 0 < (flo a b + 1) * (a.x0 + b.x0) := by
  have h4 := ha.1
  have h5 := hb.1
  by_cases h : flo a b = a.x2
  · exact .inl h
  · right
    have e : flo a b = max (apart a b) 0 / (a.x0 + b.x0) := by unfold flo at h ⊢; omega
    rw [e]
    have := Int.lt_ediv_add_one_mul_self (max (apart a b) 0) (show 0 < a.x0 + b.x0 by omega)
    exact this

def subW (v : TPool) (z : Int) : TPool := ⟨v.x0, v.x1, v.x2 - z⟩
def addW (v : TPool) (z : Int) : TPool := ⟨v.x0, v.x1, v.x2 + z⟩
theorem apart_move (a b : TPool) (z : Int) : apart (subW a z) (addW b z) = apart a b - z * (a.x0 + b.x0) := by
  unfold apart hgt subW addW
  dsimp only
  grind
theorem flo_again {a b : TPool} (ha : goodP a) (hb : goodP b) (hs : (addW b (flo a b)).x2 ≤ 100000) : flo (subW a (flo a b)) (addW b (flo a b)) = 0 := by
  have h1 := flo_bd ha hb
  have h4 := ha.1
  have h5 := hb.1
  have h6 := ha.2.2
  rcases flo_lt ha hb with h | h
  · have e : (subW a (flo a b)).x2 = 0 := by unfold subW; dsimp only; omega
    have : 0 ≤ max (apart (subW a (flo a b)) (addW b (flo a b))) 0 / ((subW a (flo a b)).x0 + (addW b (flo a b)).x0) := Int.ediv_nonneg (by omega) (by unfold subW addW; dsimp only; omega)
    unfold flo at this ⊢
    unfold flo at e
    rw [e]
    omega
  · have e := apart_move a b (flo a b)
    have h7 := flo_le ha hb
    have h8 : (flo a b + 1) * (a.x0 + b.x0) = flo a b * (a.x0 + b.x0) + (a.x0 + b.x0) := by grind
    rw [h8] at h
    have h9 : 0 ≤ max (apart (subW a (flo a b)) (addW b (flo a b))) 0 ∧ max (apart (subW a (flo a b)) (addW b (flo a b))) 0 < a.x0 + b.x0 := by
      rw [e]
      generalize flo a b * (a.x0 + b.x0) = y at *
      omega
    have h10 : max (apart (subW a (flo a b)) (addW b (flo a b))) 0 / (a.x0 + b.x0) = 0 := Int.ediv_eq_zero_of_lt h9.1 h9.2
    have h11 : (subW a (flo a b)).x0 + (addW b (flo a b)).x0 = a.x0 + b.x0 := rfl
    have h12 : (subW a (flo a b)).x2 = a.x2 - flo a b := rfl
    generalize flo a b = z at *
    unfold flo
    rw [h11, h10, h12]
    omega
theorem flo_back {a b : TPool} (ha : goodP a) (hb : goodP b) (h0 : 0 < flo a b) (hs : (addW b (flo a b)).x2 ≤ 100000) : flo (addW b (flo a b)) (subW a (flo a b)) = 0 := by
  have h1 := flo_bd ha hb
  have h4 := ha.1
  have h5 := hb.1
  have h6 := hb.2.2
  have h7 := flo_le ha hb
  have e := apart_move a b (flo a b)
  have hsy : apart (addW b (flo a b)) (subW a (flo a b)) = - apart (subW a (flo a b)) (addW b (flo a b)) := by unfold apart; omega
  have hp : 0 < apart a b := by
    have : 0 < flo a b * (a.x0 + b.x0) := Int.mul_pos h0 (by omega)
    omega
  have h9 : max (apart (addW b (flo a b)) (subW a (flo a b))) 0 = 0 := by
    rw [hsy, e]
    generalize flo a b * (a.x0 + b.x0) = y at *
    omega
  have h12 : (addW b (flo a b)).x2 = b.x2 + flo a b := rfl
  generalize flo a b = z at *
  unfold flo
  rw [h9, Int.zero_ediv, h12]
  omega

/-- What flows between two of a list, and the list behind it. -/
def fl (vs : List TPool) (i j : Nat) : Int := flo (vs.getD i noPool) (vs.getD j noPool)
def letP (vs : List TPool) (i j : Nat) : List TPool := (vs.set i (subW (vs.getD i noPool) (fl vs i j))).set j (addW (vs.getD j noPool) (fl vs i j))
theorem letP_len (vs : List TPool) (i j : Nat) : (letP vs i j).length = vs.length := by simp [letP]
theorem setP_at {vs : List TPool} {i k : Nat} (v : TPool) (hk : k < vs.length) : (vs.set i v).getD k noPool = if k = i then v else vs.getD k noPool := by
  rw [getPool (by simpa using hk), getPool hk, List.getElem_set]
  by_cases h : k = i
  · rw [if_pos h.symm, if_pos h]
  · rw [if_neg (fun e => h e.symm), if_neg h]
theorem letP_at {vs : List TPool} {i j k : Nat} (hk : k < vs.length) : (letP vs i j).getD k noPool = if k = j then addW (vs.getD j noPool) (fl vs i j) else if k = i then subW (vs.getD i noPool) (fl vs i j) else vs.getD k noPool := by
  unfold letP
  rw [setP_at _ (by simpa using hk), setP_at _ hk]
theorem letP_good {vs : List TPool} {i j : Nat} (h : goodPs vs) (hi : i < vs.length) (hj : j < vs.length) (hij : i ≠ j) : goodPs (letP vs i j) ↔ (vs.getD j noPool).x2 + fl vs i j ≤ 100000 := by
  have hf := flo_bd (h.2 i hi) (h.2 j hj)
  change 0 ≤ fl vs i j ∧ fl vs i j ≤ _ at hf
  constructor
  · intro g
    have := g.2 j (by rw [letP_len]; exact hj)
    rw [letP_at hj, if_pos rfl] at this
    exact this.2.2.2
  · intro g
    refine ⟨by rw [letP_len]; exact h.1, fun k hk => ?_⟩
    rw [letP_len] at hk
    rw [letP_at hk]
    by_cases h1 : k = j
    · rw [if_pos h1]
      obtain ⟨g1, g2, g3⟩ := h.2 j hj
      exact ⟨g1, g2, by unfold addW; dsimp only; omega⟩
    · rw [if_neg h1]
      by_cases h2 : k = i
      · rw [if_pos h2]
        obtain ⟨g1, g2, g3⟩ := h.2 i hi
        exact ⟨g1, g2, by unfold subW; dsimp only; omega⟩
      · rw [if_neg h2]
        exact h.2 k hk
/-- The sum of the Water of the first k. -/
def totP (vs : List TPool) : Nat → Int
  | 0 => 0
  | k + 1 => totP vs k + (vs.getD k noPool).x2
theorem totP_bd {vs : List TPool} (h : goodPs vs) : ∀ k, k ≤ vs.length → 0 ≤ totP vs k ∧ totP vs k ≤ 100000 * (k : Int)
  | 0, _ => by unfold totP; omega
  | k + 1, hk => by
    have ih := totP_bd h k (by omega)
    obtain ⟨h1, h2, h3⟩ := h.2 k (by omega)
    unfold totP
    omega
theorem totP_let {vs : List TPool} {i j : Nat} (hi : i < vs.length) (hj : j < vs.length) (hij : i ≠ j) : ∀ k, k ≤ vs.length → totP (letP vs i j) k = totP vs k + ((if j < k then fl vs i j else 0) - (if i < k then fl vs i j else 0))
  | 0, _ => by simp [totP]
  | k + 1, hk => by
    have ih := totP_let hi hj hij k (by omega)
    unfold totP
    rw [ih, letP_at (by omega)]
    by_cases h1 : k = j
    · subst h1
      rw [if_pos rfl, if_neg (by omega), if_pos (show k < k + 1 by omega)]
      unfold addW; dsimp only
      by_cases h2 : i < k
      · rw [if_pos h2, if_pos (by omega)]; omega
      · rw [if_neg h2, if_neg (by omega)]; omega
    · rw [if_neg h1]
      by_cases h2 : k = i
      · subst h2
        rw [if_pos rfl, if_neg (show ¬ k < k by omega), if_pos (show k < k + 1 by omega)]
        unfold subW; dsimp only
        by_cases h3 : j < k
        · rw [if_pos h3, if_pos (by omega)]; omega
        · rw [if_neg h3, if_neg (by omega)]; omega
      · rw [if_neg h2]
        by_cases h3 : j < k
        · rw [if_pos h3, if_pos (show j < k + 1 by omega)]
          by_cases h4 : i < k
          · rw [if_pos h4, if_pos (show i < k + 1 by omega)]; omega
          · rw [if_neg h4, if_neg (show ¬ i < k + 1 by omega)]; omega
        · rw [if_neg h3, if_neg (show ¬ j < k + 1 by omega)]
          by_cases h4 : i < k
          · rw [if_pos h4, if_pos (show i < k + 1 by omega)]; omega
          · rw [if_neg h4, if_neg (show ¬ i < k + 1 by omega)]; omega
theorem tot_let {vs : List TPool} {i j : Nat} (hi : i < vs.length) (hj : j < vs.length) (hij : i ≠ j) : totP (letP vs i j) vs.length = totP vs vs.length := by
  rw [totP_let hi hj hij _ (Nat.le_refl _), if_pos hj, if_pos hi]; omega

/-- Different indices of Pools behind the chamber. -/
def okO (n : Nat) (o : List Int) : Prop := ∀ k, k < o.length → (1 ≤ o.getD k 0 ∧ o.getD k 0 ≤ (n : Int) - 1) ∧ o.getD k 0 ∉ o.take k
/-- From and to for one of an order: d tells whether the chamber is drained. -/
def fromP (d : Bool) (i : Int) : Nat := if d = true then 0 else i.toNat
def toP (d : Bool) (i : Int) : Nat := if d = true then i.toNat else 0
def runL (vs : List TPool) (o : List Int) (d : Bool) : Nat → List TPool
  | 0 => vs
  | k + 1 => letP (runL vs o d k) (fromP d (o.getD k 0)) (toP d (o.getD k 0))
def runZ (vs : List TPool) (o : List Int) (d : Bool) : Nat → Int
  | 0 => 0
  | k + 1 => runZ vs o d k + fl (runL vs o d k) (fromP d (o.getD k 0)) (toP d (o.getD k 0))
theorem runL_len (vs : List TPool) (o : List Int) (d : Bool) : ∀ k, (runL vs o d k).length = vs.length
  | 0 => rfl
  | k + 1 => by rw [runL, letP_len, runL_len vs o d k]
theorem ends_ok {n : Nat} {o : List Int} (h : okO n o) (d : Bool) {k : Nat} (hk : k < o.length) : fromP d (o.getD k 0) < n ∧ toP d (o.getD k 0) < n ∧ fromP d (o.getD k 0) ≠ toP d (o.getD k 0) := by
  have := (h k hk).1
  generalize o.getD k 0 = z at *
  unfold fromP toP
  cases d with
  | true => rw [if_pos rfl, if_pos rfl]; omega
  | false => rw [if_neg (by simp), if_neg (by simp)]; omega
/-- All flows of a run are possible. -/
def allR (vs : List TPool) (o : List Int) (d : Bool) : Prop := ∀ j, j < o.length → goodPs (runL vs o d (j + 1))
def canR (vs : List TPool) (o : List Int) (d : Bool) : Prop := goodPs vs ∧ okO vs.length o ∧ allR vs o d
theorem allR.good {vs : List TPool} {o : List Int} {d : Bool} (h0 : goodPs vs) (h : allR vs o d) : ∀ k, k ≤ o.length → goodPs (runL vs o d k)
  | 0, _ => h0
  | k + 1, hk => h k (by omega)
theorem run_step {vs : List TPool} {o : List Int} {d : Bool} (ho : okO vs.length o) {k : Nat} (hk : k < o.length) (hg : goodPs (runL vs o d k)) :
    0 ≤ fl (runL vs o d k) (fromP d (o.getD k 0)) (toP d (o.getD k 0)) ∧ fl (runL vs o d k) (fromP d (o.getD k 0)) (toP d (o.getD k 0)) ≤ 100000 := by
  obtain ⟨h1, h2, -⟩ := ends_ok ho d hk
  have h3 := hg.2 _ (by rw [runL_len]; exact h1)
  have h4 := flo_bd h3 (hg.2 _ (by rw [runL_len]; exact h2))
  have := h3.2.2.2
  unfold fl
  omega
theorem runZ_bd {vs : List TPool} {o : List Int} {d : Bool} (ho : okO vs.length o) : ∀ k, k ≤ o.length → (∀ j, j < k → goodPs (runL vs o d j)) → 0 ≤ runZ vs o d k ∧ runZ vs o d k ≤ 100000 * (k : Int)
  | 0, _, _ => by unfold runZ; omega
  | k + 1, hk, hg => by
    have ih := runZ_bd ho k (by omega) (fun j hj => hg j (by omega))
    have := run_step ho (show k < o.length by omega) (hg k (by omega))
    unfold runZ
    omega
theorem canR.zbd {vs : List TPool} {o : List Int} {d : Bool} (h : canR vs o d) (k : Nat) (hk : k ≤ o.length) : 0 ≤ runZ vs o d k ∧ runZ vs o d k ≤ 100000 * (k : Int) :=
  runZ_bd h.2.1 k hk (fun j hj => h.2.2.good h.1 j (by omega))
theorem run_tot {vs : List TPool} {o : List Int} {d : Bool} (ho : okO vs.length o) : ∀ k, k ≤ o.length → totP (runL vs o d k) vs.length = totP vs vs.length
  | 0, _ => rfl
  | k + 1, hk => by
    obtain ⟨h1, h2, h3⟩ := ends_ok ho d (show k < o.length by omega)
    have ih := run_tot (d := d) ho k (by omega)
    have := tot_let (vs := runL vs o d k) (by rw [runL_len]; exact h1) (by rw [runL_len]; exact h2) h3
    rw [runL_len] at this
    rw [runL, this, ih]
/-- What is saved is what the chamber has lost. -/
theorem run_zero {vs : List TPool} {o : List Int} (ho : okO vs.length o) (h0 : 0 < vs.length) : ∀ k, k ≤ o.length → ((runL vs o true k).getD 0 noPool).x2 = (vs.getD 0 noPool).x2 - runZ vs o true k
  | 0, _ => by unfold runL runZ; omega
  | k + 1, hk => by
    obtain ⟨h1, h2, h3⟩ := ends_ok ho true (show k < o.length by omega)
    have ih := run_zero ho h0 k (by omega)
    have e : fromP true (o.getD k 0) = 0 := rfl
    rw [runL, runZ, letP_at (by rw [runL_len]; exact h0), if_neg (by rw [e] at h3; exact h3), if_pos e.symm]
    rw [e]
    show ((runL vs o true k).getD 0 noPool).x2 - _ = _
    rw [ih]
    omega

/-! The answers. -/
def canL (vs : List TPool) (i j : Int) : Prop := goodPs vs ∧ (0 ≤ i ∧ i ≤ (vs.length : Int) - 1) ∧ (0 ≤ j ∧ j ≤ (vs.length : Int) - 1) ∧ i ≠ j
def LetA (vs : List TPool) (i j : Int) (L : List TPool) (z : Int) (x : Bool) : Prop :=
  (canL vs i j ∧ goodPs (letP vs i.toNat j.toNat) → L = letP vs i.toNat j.toNat ∧ z = fl vs i.toNat j.toNat ∧ x = true) ∧ (¬ (canL vs i j ∧ goodPs (letP vs i.toNat j.toNat)) → L = [] ∧ z = 0 ∧ x = false)
theorem letA_ex (vs : List TPool) (i j : Int) : ∃ L z x, LetA vs i j L z x := by
  by_cases e : canL vs i j ∧ goodPs (letP vs i.toNat j.toNat)
  · exact ⟨_, _, true, fun _ => ⟨rfl, rfl, rfl⟩, fun h => absurd e h⟩
  · exact ⟨[], 0, false, fun h => absurd h e, fun _ => ⟨rfl, rfl, rfl⟩⟩
theorem LetA.len {vs : List TPool} {i j : Int} {L : List TPool} {z : Int} {x : Bool} (h : LetA vs i j L z x) : L.length ≤ 5 := by
  by_cases e : canL vs i j ∧ goodPs (letP vs i.toNat j.toNat)
  · rw [(h.1 e).1, letP_len]; exact e.1.1.1.2
  · rw [(h.2 e).1]; simp
def RunPA (vs : List TPool) (o : List Int) (d : Bool) (L : List TPool) (z : Int) (x : Bool) : Prop :=
  (canR vs o d → L = runL vs o d o.length ∧ z = runZ vs o d o.length ∧ x = true) ∧ (¬ canR vs o d → L = [] ∧ z = 0 ∧ x = false)
theorem runP_ex (vs : List TPool) (o : List Int) (d : Bool) : ∃ L z x, RunPA vs o d L z x := by
  by_cases e : canR vs o d
  · exact ⟨_, _, true, fun _ => ⟨rfl, rfl, rfl⟩, fun h => absurd e h⟩
  · exact ⟨[], 0, false, fun h => absurd h e, fun _ => ⟨rfl, rfl, rfl⟩⟩
theorem RunPA.len {vs : List TPool} {o : List Int} {d : Bool} {L : List TPool} {z : Int} {x : Bool} (h : RunPA vs o d L z x) : L.length ≤ 5 := by
  by_cases e : canR vs o d
  · rw [(h.1 e).1, runL_len]; exact e.1.1.2
  · rw [(h.2 e).1]; simp
def FloA (a b : TPool) (z : Int) (x : Bool) : Prop := (goodP a ∧ goodP b → z = flo a b ∧ x = true) ∧ (¬ (goodP a ∧ goodP b) → z = 0 ∧ x = false)
theorem floA_ex (a b : TPool) : ∃ z x, FloA a b z x := by
  by_cases e : goodP a ∧ goodP b
  · exact ⟨_, true, fun _ => ⟨rfl, rfl⟩, fun h => absurd e h⟩
  · exact ⟨0, false, fun h => absurd h e, fun _ => ⟨rfl, rfl⟩⟩
/-- A fraction in lowest terms. -/
def redN (a b : Int) : Int := ((a.toNat / Nat.gcd a.toNat b.toNat : Nat) : Int)
def redD (a b : Int) : Int := ((b.toNat / Nat.gcd a.toNat b.toNat : Nat) : Int)
theorem red_same {a b : Int} (ha : 0 ≤ a) (hb : 0 < b) : redN a b * b = a * redD a b := by
  obtain ⟨x, rfl⟩ : ∃ x : Nat, a = (x : Int) := ⟨a.toNat, by omega⟩
  obtain ⟨y, rfl⟩ : ∃ y : Nat, b = (y : Int) := ⟨b.toNat, by omega⟩
  unfold redN redD
  rw [Int.toNat_natCast, Int.toNat_natCast]
  have hg : 0 < Nat.gcd x y := Nat.gcd_pos_of_pos_right _ (by omega)
  obtain ⟨p, hp⟩ := Nat.gcd_dvd_left x y
  obtain ⟨q, hq⟩ := Nat.gcd_dvd_right x y
  generalize Nat.gcd x y = g at *
  have e1 : x / g = p := by rw [hp, Nat.mul_div_cancel_left _ hg]
  have e2 : y / g = q := by rw [hq, Nat.mul_div_cancel_left _ hg]
  rw [e1, e2]
  have : p * y = x * q := by rw [hp, hq]; grind
  exact_mod_cast this
theorem red_bd {a b : Int} (ha : 0 ≤ a) (hb : 0 < b) : 0 ≤ redN a b ∧ redN a b ≤ a ∧ 0 ≤ redD a b ∧ redD a b ≤ b := by
  have h1 : a.toNat / Nat.gcd a.toNat b.toNat ≤ a.toNat := Nat.div_le_self _ _
  have h2 : b.toNat / Nat.gcd a.toNat b.toNat ≤ b.toNat := Nat.div_le_self _ _
  unfold redN redD
  generalize a.toNat / Nat.gcd a.toNat b.toNat = x at *
  generalize b.toNat / Nat.gcd a.toNat b.toNat = y at *
  omega
def LvlA (a : TPool) (p q : Int) (x : Bool) : Prop := (goodP a → p = redN (hgt a) a.x0 ∧ q = redD (hgt a) a.x0 ∧ x = true) ∧ (¬ goodP a → p = 0 ∧ q = 0 ∧ x = false)
theorem lvlA_ex (a : TPool) : ∃ p q x, LvlA a p q x := by
  by_cases e : goodP a
  · exact ⟨_, _, true, fun _ => ⟨rfl, rfl, rfl⟩, fun h => absurd e h⟩
  · exact ⟨0, 0, false, fun h => absurd h e, fun _ => ⟨rfl, rfl, rfl⟩⟩
def ShrA (vs : List TPool) (o : List Int) (p q : Int) (x : Bool) : Prop :=
  (canR vs o true ∧ (vs.getD 0 noPool).x2 ≠ 0 → p = redN (runZ vs o true o.length) (vs.getD 0 noPool).x2 ∧ q = redD (runZ vs o true o.length) (vs.getD 0 noPool).x2 ∧ x = true) ∧ (¬ (canR vs o true ∧ (vs.getD 0 noPool).x2 ≠ 0) → p = 0 ∧ q = 0 ∧ x = false)
theorem shrA_ex (vs : List TPool) (o : List Int) : ∃ p q x, ShrA vs o p q x := by
  by_cases e : canR vs o true ∧ (vs.getD 0 noPool).x2 ≠ 0
  · exact ⟨_, _, true, fun _ => ⟨rfl, rfl, rfl⟩, fun h => absurd e h⟩
  · exact ⟨0, 0, false, fun h => absurd h e, fun _ => ⟨rfl, rfl, rfl⟩⟩
def AllA (vs : List TPool) (z : Int) (x : Bool) : Prop := (gPs vs = true → z = totP vs vs.length ∧ x = true) ∧ (gPs vs = false → z = 0 ∧ x = false)
theorem allA_ex (vs : List TPool) : ∃ z x, AllA vs z x := by
  cases e : gPs vs with
  | true => exact ⟨_, true, fun _ => ⟨rfl, rfl⟩, fun h => (by rw [e] at h; cases h)⟩
  | false => exact ⟨0, false, fun h => (by rw [e] at h; cases h), fun _ => ⟨rfl, rfl⟩⟩
end Go.Proofs.Ytgnopkemcgbedaa
