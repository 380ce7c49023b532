/- Chapter 10: the mathematics of basins and flows. -/
import Derived.Test.YtliebicnejbheaaSBasin
import Derived.Test.YtliebicnejbheaaSFlow
namespace Go.Proofs.Ytliebicnejbheaa
set_option linter.unusedVariables false

def goodB (v : TBasin) : Prop := (0 ≤ v.x1 ∧ v.x1 ≤ v.x0) ∧ v.x0 ≤ v.x2 ∧ v.x2 ≤ 100000
instance (v : TBasin) : Decidable (goodB v) := by unfold goodB; infer_instance
def goodBs (vs : List TBasin) : Prop := (1 ≤ vs.length ∧ vs.length ≤ 6) ∧ ∀ k, k < vs.length → goodB (vs.getD k noBasin)
noncomputable def gBs (vs : List TBasin) : Bool := open Classical in decide (goodBs vs)
theorem gBs_iff (vs : List TBasin) : gBs vs = true ↔ goodBs vs := by unfold gBs; simp
theorem gBs_yes {vs : List TBasin} (h : goodBs vs) : gBs vs = true := (gBs_iff vs).2 h
theorem gBs_no {vs : List TBasin} (h : ¬ goodBs vs) : gBs vs = false := by unfold gBs; simp [h]

/-- A Flow that is valid for n Basins. -/
def goodF (n : Nat) (f : TFlow) : Prop := (-1 ≤ f.x0 ∧ f.x0 ≤ (n : Int) - 1) ∧ (-1 ≤ f.x1 ∧ f.x1 ≤ (n : Int) - 1) ∧ f.x0 ≠ f.x1 ∧ (1 ≤ f.x2 ∧ f.x2 ≤ 100000)
instance (n : Nat) (f : TFlow) : Decidable (goodF n f) := by unfold goodF; infer_instance
noncomputable def gF (n : Nat) (f : TFlow) : Bool := open Classical in decide (goodF n f)
theorem gF_iff (n : Nat) (f : TFlow) : gF n f = true ↔ goodF n f := by unfold gF; simp
theorem gF_no {n : Nat} {f : TFlow} (h : ¬ goodF n f) : gF n f = false := by unfold gF; simp [h]
def goodFs (n : Nat) (fs : List TFlow) : Prop := fs.length ≤ 12 ∧ ∀ k, k < fs.length → goodF n (fs.getD k noFlow)
/-- Basins, and at most twelve Flows that are valid for them. -/
def canT (vs : List TBasin) (fs : List TFlow) : Prop := goodBs vs ∧ goodFs vs.length fs
noncomputable def gT (vs : List TBasin) (fs : List TFlow) : Bool := open Classical in decide (canT vs fs)
theorem gT_iff (vs : List TBasin) (fs : List TFlow) : gT vs fs = true ↔ canT vs fs := by unfold gT; simp
theorem gT_no {vs : List TBasin} {fs : List TFlow} (h : ¬ canT vs fs) : gT vs fs = false := by unfold gT; simp [h]

/-- One Basin behind a Flow. -/
def mv (f : TFlow) (i : Nat) (b : TBasin) : TBasin :=
  ⟨(if (i : Int) = f.x1 then (if (i : Int) = f.x0 then b.x0 - f.x2 else b.x0) + f.x2 else (if (i : Int) = f.x0 then b.x0 - f.x2 else b.x0)), b.x1, b.x2⟩
def move (vs : List TBasin) (f : TFlow) : List TBasin := vs.mapIdx (mv f)
theorem move_len (vs : List TBasin) (f : TFlow) : (move vs f).length = vs.length := by simp [move]
theorem move_at {vs : List TBasin} {f : TFlow} {k : Nat} (h : k < vs.length) : (move vs f).getD k noBasin = mv f k (vs.getD k noBasin) := by
  rw [getBasin (by rw [move_len]; exact h), getBasin h]
  simp [move]
/-- The Flow out of a Basin alone, and the Flow into one. -/
def addTo (vs : List TBasin) (k : Nat) (z : Int) : List TBasin := vs.set k ⟨(vs.getD k noBasin).x0 + z, (vs.getD k noBasin).x1, (vs.getD k noBasin).x2⟩
theorem addTo_len (vs : List TBasin) (k : Nat) (z : Int) : (addTo vs k z).length = vs.length := by simp [addTo]
theorem addTo_at {vs : List TBasin} {k j : Nat} (z : Int) (hk : k < vs.length) (hj : j < vs.length) : (addTo vs k z).getD j noBasin = if j = k then ⟨(vs.getD k noBasin).x0 + z, (vs.getD k noBasin).x1, (vs.getD k noBasin).x2⟩ else vs.getD j noBasin := by
  rw [getBasin (by rw [addTo_len]; exact hj), getBasin hk, getBasin hj]
  simp only [addTo, getBasin hk, List.getElem_set]
  by_cases h : j = k
  · simp [h]
  · rw [if_neg (fun e => h e.symm), if_neg h]
theorem ext_basin {xs ys : List TBasin} (hl : xs.length = ys.length) (h : ∀ k, k < xs.length → xs.getD k noBasin = ys.getD k noBasin) : xs = ys := by
  refine List.ext_getElem hl (fun k h1 h2 => ?_)
  have := h k h1
  rwa [getBasin h1, getBasin h2] at this
theorem flatBasin_x0 : ∀ (vs : List TBasin) (k : Nat) (z : Int) (h : k < vs.length), (flatBasin vs).set (k * 3) (.int .i64 z) = flatBasin (vs.set k ⟨z, vs[k].x1, vs[k].x2⟩)
  | [], k, z, h => absurd h (by simp)
  | x :: t, 0, z, _ => rfl
  | x :: t, k + 1, z, h => by
    have ih := flatBasin_x0 t k z (by simpa using h)
    have e : (k + 1) * 3 = k * 3 + 1 + 1 + 1 := by omega
    rw [e]
    simp only [flatBasin, List.set_cons_succ, List.getElem_cons_succ]
    rw [ih]
theorem addTo_flat {vs : List TBasin} {k : Nat} (z : Int) (h : k < vs.length) : (flatBasin vs).set (k * 3) (.int .i64 ((vs.getD k noBasin).x0 + z)) = flatBasin (addTo vs k z) := by
  rw [flatBasin_x0 vs k _ h]
  unfold addTo
  rw [getBasin h]
theorem flatBasin_set : ∀ (vs : List TBasin) (k : Nat) (v : TBasin), k < vs.length →
    (((flatBasin vs).set (k * 3) (.int .i64 v.x0)).set (k * 3 + 1) (.int .i64 v.x1)).set (k * 3 + 2) (.int .i64 v.x2) = flatBasin (vs.set k v)
  | [], k, v, h => absurd h (by simp)
  | x :: t, 0, v, _ => rfl
  | x :: t, k + 1, v, h => by
    have ih := flatBasin_set t k v (by simpa using h)
    have e : (k + 1) * 3 = k * 3 + 1 + 1 + 1 := by omega
    rw [e]
    simp only [flatBasin, List.set_cons_succ]
    rw [ih]
theorem flatBasin_one : ∀ (vs : List TBasin), ∀ u ∈ flatBasin vs, u.oneCell' = true
  | [], u, h => by simp [flatBasin] at h
  | v :: t, u, h => by
    simp only [flatBasin, List.mem_cons] at h
    rcases h with rfl | rfl | rfl | h
    · rfl
    · rfl
    · rfl
    · exact flatBasin_one t u h
/-- Both ends of a Flow, one after the other. -/
def pourA (vs : List TBasin) (f : TFlow) : List TBasin := if f.x0 = -1 then vs else addTo vs f.x0.toNat (-f.x2)
def pourB (vs : List TBasin) (f : TFlow) : List TBasin := if f.x1 = -1 then vs else addTo vs f.x1.toNat f.x2
theorem pourA_len (vs : List TBasin) (f : TFlow) : (pourA vs f).length = vs.length := by unfold pourA; split <;> simp [addTo_len]
theorem pourB_len (vs : List TBasin) (f : TFlow) : (pourB vs f).length = vs.length := by unfold pourB; split <;> simp [addTo_len]
theorem pour_move {vs : List TBasin} {f : TFlow} (h : goodF vs.length f) : pourB (pourA vs f) f = move vs f := by
  obtain ⟨⟨h1, h2⟩, ⟨h3, h4⟩, h5, -⟩ := h
  refine ext_basin (by rw [pourB_len, pourA_len, move_len]) (fun k hk => ?_)
  rw [pourB_len, pourA_len] at hk
  rw [move_at hk]
  have HA : (pourA vs f).getD k noBasin = ⟨if (k : Int) = f.x0 then (vs.getD k noBasin).x0 - f.x2 else (vs.getD k noBasin).x0, (vs.getD k noBasin).x1, (vs.getD k noBasin).x2⟩ := by
    unfold pourA
    by_cases e : f.x0 = -1
    · rw [if_pos e, if_neg (by omega)]
    · rw [if_neg e, addTo_at _ (by omega) hk]
      by_cases e2 : k = f.x0.toNat
      · rw [if_pos e2, if_pos (by omega), ← e2]; rfl
      · rw [if_neg e2, if_neg (by omega)]
  unfold pourB mv
  by_cases e : f.x1 = -1
  · have e2 : ¬ (k : Int) = f.x1 := by omega
    rw [if_pos e, HA, if_neg e2]
  · rw [if_neg e, addTo_at _ (by rw [pourA_len]; omega) (by rw [pourA_len]; exact hk)]
    by_cases e2 : k = f.x1.toNat
    · rw [if_pos e2, if_pos (by omega), ← e2, HA]
    · rw [if_neg e2, if_neg (by omega), HA]

/-- Within t Flows' reach of good Basins. -/
def bdB (t : Nat) (vs : List TBasin) : Prop := ∀ k, k < vs.length → -(100000 * (t : Int)) ≤ (vs.getD k noBasin).x0 ∧ (vs.getD k noBasin).x0 ≤ 100000 * ((t : Int) + 1) ∧ (0 ≤ (vs.getD k noBasin).x1 ∧ (vs.getD k noBasin).x1 ≤ 100000) ∧ (0 ≤ (vs.getD k noBasin).x2 ∧ (vs.getD k noBasin).x2 ≤ 100000)
theorem goodBs.bd {vs : List TBasin} (h : goodBs vs) : bdB 0 vs := fun k hk => by
  obtain ⟨h1, h2, h3⟩ := h.2 k hk
  omega
theorem bdB.move {vs : List TBasin} {t : Nat} (h : bdB t vs) {f : TFlow} (hf : goodF vs.length f) : bdB (t + 1) (move vs f) := fun k hk => by
  rw [move_len] at hk
  rw [move_at hk]
  obtain ⟨h1, h2, h3, h4⟩ := h k hk
  obtain ⟨-, -, h5, h6⟩ := hf
  unfold mv
  dsimp only
  refine ⟨?_, ?_, h3, h4⟩ <;> split <;> split <;> omega
theorem bdB.le {vs : List TBasin} {t u : Nat} (h : bdB t vs) (hu : t ≤ u) : bdB u vs := fun k hk => by
  obtain ⟨h1, h2, h3, h4⟩ := h k hk
  refine ⟨?_, ?_, h3, h4⟩ <;> omega
/-- The Flows made one after the other. -/
def moves (vs : List TBasin) (fs : List TFlow) : Nat → List TBasin
  | 0 => vs
  | k + 1 => move (moves vs fs k) (fs.getD k noFlow)
theorem moves_len (vs : List TBasin) (fs : List TFlow) : ∀ k, (moves vs fs k).length = vs.length
  | 0 => rfl
  | k + 1 => by rw [moves, move_len, moves_len vs fs k]
theorem moves_bd {vs : List TBasin} {fs : List TFlow} (h : canT vs fs) : ∀ k, k ≤ fs.length → bdB k (moves vs fs k)
  | 0, _ => h.1.bd
  | k + 1, hk => by
    have ih := moves_bd h k (by omega)
    exact ih.move (by rw [moves_len]; exact h.2.2 k (by omega))
/-- The number of Flows that are made: the first of the first m behind which the Basins are not valid. -/
noncomputable def made (vs : List TBasin) (fs : List TFlow) : Nat → Nat
  | 0 => 0
  | k + 1 => open Classical in if made vs fs k = k ∧ goodBs (moves vs fs (k + 1)) then k + 1 else made vs fs k
theorem made_le (vs : List TBasin) (fs : List TFlow) : ∀ m, made vs fs m ≤ m
  | 0 => Nat.le_refl _
  | k + 1 => by
    have := made_le vs fs k
    unfold made
    split <;> omega
theorem made_all {vs : List TBasin} {fs : List TFlow} : ∀ m, (∀ j, j < m → goodBs (moves vs fs (j + 1))) → made vs fs m = m
  | 0, _ => rfl
  | k + 1, h => by
    unfold made
    rw [if_pos ⟨made_all k (fun j hj => h j (by omega)), h k (by omega)⟩]
theorem made_hit {vs : List TBasin} {fs : List TFlow} {k : Nat} (h : ∀ j, j < k → goodBs (moves vs fs (j + 1))) (hk : ¬ goodBs (moves vs fs (k + 1))) : ∀ m, k < m → made vs fs m = k
  | 0, h0 => absurd h0 (by omega)
  | m + 1, hm => by
    unfold made
    by_cases e : k = m
    · subst e
      rw [if_neg (fun g => hk g.2), made_all k h]
    · have ih := made_hit h hk m (by omega)
      rw [ih, if_neg (fun g => by omega)]
theorem made_good {vs : List TBasin} {fs : List TFlow} (h0 : goodBs vs) : ∀ m j, j ≤ made vs fs m → goodBs (moves vs fs j)
  | 0, j, hj => by
    obtain rfl : j = 0 := by unfold made at hj; omega
    exact h0
  | m + 1, j, hj => by
    unfold made at hj
    by_cases e : made vs fs m = m ∧ goodBs (moves vs fs (m + 1))
    · rw [if_pos e] at hj
      by_cases e2 : j = m + 1
      · rw [e2]; exact e.2
      · exact made_good h0 m j (by omega)
    · rw [if_neg e] at hj
      exact made_good h0 m j hj
theorem made_stop {vs : List TBasin} {fs : List TFlow} : ∀ m, made vs fs m < m → ¬ goodBs (moves vs fs (made vs fs m + 1))
  | 0, h => absurd h (by omega)
  | m + 1, h => by
    unfold made at h ⊢
    by_cases e : made vs fs m = m ∧ goodBs (moves vs fs (m + 1))
    · rw [if_pos e] at h; omega
    · rw [if_neg e] at h ⊢
      by_cases e2 : made vs fs m = m
      · rw [e2]; exact fun g => e ⟨e2, g⟩
      · exact made_stop m (by have := made_le vs fs m; omega)

/-- The sum of the first k Volumes. -/
def totK (vs : List TBasin) : Nat → Int
  | 0 => 0
  | k + 1 => totK vs k + (vs.getD k noBasin).x0
theorem totK_bd {vs : List TBasin} (h : goodBs vs) : ∀ k, k ≤ vs.length → 0 ≤ totK vs k ∧ totK vs k ≤ 100000 * (k : Int)
  | 0, _ => by unfold totK; omega
  | k + 1, hk => by
    have ih := totK_bd h k (by omega)
    obtain ⟨h1, h2, h3⟩ := h.2 k (by omega)
    unfold totK
    omega
/-- What a Flow brings from outside. -/
def inF (f : TFlow) : Int := (if f.x0 = -1 then f.x2 else 0) - (if f.x1 = -1 then f.x2 else 0)
def netK (fs : List TFlow) : Nat → Int
  | 0 => 0
  | k + 1 => netK fs k + inF (fs.getD k noFlow)
theorem inF_bd {n : Nat} {f : TFlow} (h : goodF n f) : -100000 ≤ inF f ∧ inF f ≤ 100000 := by
  obtain ⟨-, -, -, h6⟩ := h
  unfold inF
  split <;> split <;> omega
theorem netK_bd {n : Nat} {fs : List TFlow} (h : goodFs n fs) : ∀ k, k ≤ fs.length → -(100000 * (k : Int)) ≤ netK fs k ∧ netK fs k ≤ 100000 * (k : Int)
  | 0, _ => by unfold netK; omega
  | k + 1, hk => by
    have ih := netK_bd h k (by omega)
    have := inF_bd (h.2 k (by omega))
    unfold netK
    omega
/-- The water changes by what the Flow brings. -/
theorem totK_set : ∀ (k : Nat) (vs us : List TBasin), (∀ j, j < k → us.getD j noBasin = vs.getD j noBasin) → totK us k = totK vs k
  | 0, _, _, _ => rfl
  | k + 1, vs, us, h => by
    unfold totK
    rw [totK_set k vs us (fun j hj => h j (by omega)), h k (by omega)]
theorem totK_add {vs : List TBasin} {i : Nat} {z : Int} (hi : i < vs.length) : ∀ k, k ≤ vs.length → totK (addTo vs i z) k = totK vs k + (if i < k then z else 0)
  | 0, _ => by simp [totK]
  | k + 1, hk => by
    have ih := totK_add (z := z) hi k (by omega)
    unfold totK
    rw [ih, addTo_at z hi (by omega)]
    by_cases e : k = i
    · subst e
      rw [if_pos rfl, if_neg (by omega), if_pos (by omega)]
      dsimp only; omega
    · rw [if_neg e]
      by_cases e2 : i < k
      · rw [if_pos e2, if_pos (by omega)]; omega
      · rw [if_neg e2, if_neg (by omega)]; omega
theorem tot_move {vs : List TBasin} {f : TFlow} (h : goodF vs.length f) : totK (move vs f) vs.length = totK vs vs.length + inF f := by
  rw [← pour_move h]
  obtain ⟨⟨h1, h2⟩, ⟨h3, h4⟩, h5, -⟩ := h
  unfold pourB pourA inF
  by_cases e0 : f.x0 = -1
  · rw [if_pos e0, if_pos e0, if_neg (by omega), if_neg (by omega), totK_add (by omega) _ (Nat.le_refl _), if_pos (by omega)]; omega
  · rw [if_neg e0, if_neg e0]
    by_cases e1 : f.x1 = -1
    · rw [if_pos e1, if_pos e1, totK_add (by omega) _ (Nat.le_refl _), if_pos (by omega)]; omega
    · rw [if_neg e1, if_neg e1, totK_add (by rw [addTo_len]; omega) _ (by rw [addTo_len]; exact Nat.le_refl _), totK_add (by omega) _ (Nat.le_refl _), if_pos (by omega), if_pos (by omega)]; omega
theorem tot_moves {vs : List TBasin} {fs : List TFlow} (h : canT vs fs) : ∀ k, k ≤ fs.length → totK (moves vs fs k) vs.length = totK vs vs.length + netK fs k
  | 0, _ => by simp [moves, netK]
  | k + 1, hk => by
    have ih := tot_moves h k (by omega)
    have hm := tot_move (vs := moves vs fs k) (f := fs.getD k noFlow) (by rw [moves_len]; exact h.2.2 k (by omega))
    rw [moves_len] at hm
    unfold moves netK
    rw [hm, ih]; omega
/-- The Flow back. -/
theorem move_back {vs : List TBasin} {f : TFlow} : move (move vs f) ⟨f.x1, f.x0, f.x2⟩ = vs := by
  refine ext_basin (by rw [move_len, move_len]) (fun k hk => ?_)
  rw [move_len, move_len] at hk
  rw [move_at (by rw [move_len]; exact hk), move_at hk]
  generalize vs.getD k noBasin = b
  obtain ⟨b0, b1, b2⟩ := b
  unfold mv
  dsimp only
  congr 1
  split <;> split <;> omega
/-! Leveling out. -/
def upB (b : TBasin) : Int := b.x0 - b.x1
def dnB (b : TBasin) : Int := b.x2 - b.x0
/-- The first of the greatest among the first k. -/
def farK (d : TBasin → Int) (vs : List TBasin) : Nat → Nat
  | 0 => 0
  | k + 1 => if d (vs.getD (farK d vs k) noBasin) < d (vs.getD k noBasin) then k else farK d vs k
theorem farK_lt (d : TBasin → Int) (vs : List TBasin) : ∀ k, 0 < k → farK d vs k < k
  | 0, h => absurd h (by omega)
  | k + 1, _ => by
    unfold farK
    split
    · omega
    · by_cases e : k = 0
      · subst e; show 0 < 1; omega
      · have := farK_lt d vs k (by omega); omega
theorem farK_le (d : TBasin → Int) (vs : List TBasin) (k : Nat) : farK d vs k ≤ k := by
  cases k with
  | zero => exact Nat.le_refl _
  | succ k => have := farK_lt d vs (k + 1) (by omega); omega
theorem farK_one (d : TBasin → Int) (vs : List TBasin) : farK d vs 1 = 0 := by
  have := farK_lt d vs 1 (by omega)
  omega
def fromI (vs : List TBasin) : Nat := farK upB vs vs.length
def toI (vs : List TBasin) : Nat := farK dnB vs vs.length
def lvF (vs : List TBasin) : TFlow := ⟨(fromI vs : Int), (toI vs : Int), 1⟩
/-- No further unit is moved. -/
def lvStop (vs : List TBasin) : Prop := upB (vs.getD (fromI vs) noBasin) < upB (vs.getD (toI vs) noBasin) + 2 ∨ dnB (vs.getD (toI vs) noBasin) = 0
instance (vs : List TBasin) : Decidable (lvStop vs) := by unfold lvStop; infer_instance
def lvK (vs : List TBasin) : Nat → List TBasin
  | 0 => vs
  | t + 1 => move (lvK vs t) (lvF (lvK vs t))
def Lv (vs : List TBasin) (T : Nat) : Prop := lvStop (lvK vs T) ∧ ∀ t, t < T → ¬ lvStop (lvK vs t)
theorem lvK_len (vs : List TBasin) : ∀ t, (lvK vs t).length = vs.length
  | 0 => rfl
  | t + 1 => by rw [lvK, move_len, lvK_len vs t]
theorem lv_step {vs : List TBasin} (h : goodBs vs) (hs : ¬ lvStop vs) :
    fromI vs < vs.length ∧ toI vs < vs.length ∧ fromI vs ≠ toI vs ∧ goodF vs.length (lvF vs) ∧ goodBs (move vs (lvF vs)) := by
  have hf : fromI vs < vs.length := farK_lt _ _ _ h.1.1
  have ht : toI vs < vs.length := farK_lt _ _ _ h.1.1
  have hl := h.1
  unfold lvStop at hs
  obtain ⟨h1, h2⟩ := not_or.1 hs
  have hne : fromI vs ≠ toI vs := fun e => by rw [e] at h1; omega
  refine ⟨hf, ht, hne, ⟨⟨by simp only [lvF]; omega, by simp only [lvF]; omega⟩, ⟨by simp only [lvF]; omega, by simp only [lvF]; omega⟩, by simp only [lvF]; omega, by simp [lvF]⟩, by rw [move_len]; exact h.1, fun k hk => ?_⟩
  rw [move_len] at hk
  rw [move_at hk]
  obtain ⟨⟨g1, g2⟩, g3, g4⟩ := h.2 k hk
  obtain ⟨⟨t1, t2⟩, t3, t4⟩ := h.2 _ ht
  unfold mv lvF goodB
  dsimp only
  by_cases e1 : k = toI vs
  · subst e1
    rw [if_pos rfl, if_neg (by omega)]
    unfold dnB at h2
    refine ⟨⟨g1, by omega⟩, by omega, g4⟩
  · rw [if_neg (by omega)]
    by_cases e2 : k = fromI vs
    · subst e2
      rw [if_pos rfl]
      unfold upB at h1
      refine ⟨⟨g1, by omega⟩, by omega, g4⟩
    · rw [if_neg (by omega)]
      exact ⟨⟨g1, g2⟩, g3, g4⟩
/-- The sum of the squares of what lies above the Leasts. -/
def sqK (vs : List TBasin) : Nat → Int
  | 0 => 0
  | k + 1 => sqK vs k + upB (vs.getD k noBasin) * upB (vs.getD k noBasin)
theorem sqK_pos (vs : List TBasin) : ∀ k, 0 ≤ sqK vs k
  | 0 => by unfold sqK; omega
  | k + 1 => by
    have ih := sqK_pos vs k
    have : 0 ≤ upB (vs.getD k noBasin) * upB (vs.getD k noBasin) := by
      rcases Int.le_total 0 (upB (vs.getD k noBasin)) with h | h
      · exact Int.mul_nonneg h h
      · exact Int.mul_nonneg_of_nonpos_of_nonpos h h
    unfold sqK
    omega
theorem sqK_add {vs : List TBasin} {i : Nat} {z : Int} (hi : i < vs.length) : ∀ k, k ≤ vs.length → sqK (addTo vs i z) k = sqK vs k + (if i < k then 2 * (z * upB (vs.getD i noBasin)) + z * z else 0)
  | 0, _ => by simp [sqK]
  | k + 1, hk => by
    have ih := sqK_add (z := z) hi k (by omega)
    unfold sqK
    rw [ih, addTo_at z hi (by omega)]
    by_cases e : k = i
    · subst e
      rw [if_pos rfl, if_neg (by omega), if_pos (by omega)]
      unfold upB
      dsimp only
      generalize (vs.getD k noBasin).x0 = a
      generalize (vs.getD k noBasin).x1 = b
      grind
    · rw [if_neg e]
      by_cases e2 : i < k
      · rw [if_pos e2, if_pos (by omega)]; omega
      · rw [if_neg e2, if_neg (by omega)]; omega
theorem sq_step {vs : List TBasin} (h : goodBs vs) (hs : ¬ lvStop vs) : sqK (move vs (lvF vs)) vs.length < sqK vs vs.length := by
  obtain ⟨hf, ht, hne, hg, -⟩ := lv_step h hs
  unfold lvStop at hs
  obtain ⟨h1, -⟩ := not_or.1 hs
  rw [← pour_move hg]
  have e0 : (lvF vs).x0 = (fromI vs : Int) := rfl
  have e1 : (lvF vs).x1 = (toI vs : Int) := rfl
  have e2 : (lvF vs).x2 = 1 := rfl
  unfold pourB pourA
  rw [e0, e1, e2, if_neg (by omega), if_neg (by omega), Int.toNat_natCast, Int.toNat_natCast, sqK_add (by rw [addTo_len]; exact ht) _ (by rw [addTo_len]; exact Nat.le_refl _), sqK_add hf _ (Nat.le_refl _), if_pos ht, if_pos hf, addTo_at _ hf ht, if_neg (fun e => hne e.symm)]
  omega
theorem lv_good {vs : List TBasin} (h : goodBs vs) : ∀ T, (∀ t, t < T → ¬ lvStop (lvK vs t)) → goodBs (lvK vs T)
  | 0, _ => h
  | T + 1, hs => (lv_step (lv_good h T (fun t ht => hs t (by omega))) (hs T (by omega))).2.2.2.2
theorem lvK_shift (vs : List TBasin) : ∀ t, lvK (move vs (lvF vs)) t = lvK vs (t + 1)
  | 0 => rfl
  | t + 1 => by
    show move (lvK (move vs (lvF vs)) t) (lvF (lvK (move vs (lvF vs)) t)) = _
    rw [lvK_shift vs t]
    rfl
theorem lv_ex : ∀ (m : Nat) (vs : List TBasin), goodBs vs → sqK vs vs.length ≤ (m : Int) → ∃ T, Lv vs T
  | 0, vs, h, hm => by
    by_cases hs : lvStop vs
    · exact ⟨0, hs, fun t ht => absurd ht (by omega)⟩
    · have := sq_step h hs
      have := sqK_pos (move vs (lvF vs)) vs.length
      omega
  | m + 1, vs, h, hm => by
    by_cases hs : lvStop vs
    · exact ⟨0, hs, fun t ht => absurd ht (by omega)⟩
    · have := sq_step h hs
      obtain ⟨T, h1, h2⟩ := lv_ex m (move vs (lvF vs)) (lv_step h hs).2.2.2.2 (by rw [move_len]; omega)
      refine ⟨T + 1, by rw [← lvK_shift]; exact h1, fun t ht => ?_⟩
      cases t with
      | zero => exact hs
      | succ t => rw [← lvK_shift]; exact h2 t (by omega)
/-- What LevelOut answers. -/
def LevA (vs : List TBasin) (L : List TBasin) (x : Bool) : Prop := (gBs vs = true → (∃ T, Lv vs T ∧ L = lvK vs T) ∧ x = true) ∧ (gBs vs = false → L = [] ∧ x = false)
theorem levA_ex (vs : List TBasin) : ∃ L x, LevA vs L x := by
  cases e : gBs vs with
  | true =>
    have hg := (gBs_iff vs).1 e
    obtain ⟨T, hT⟩ := lv_ex (sqK vs vs.length).toNat vs hg (by have := sqK_pos vs vs.length; omega)
    exact ⟨lvK vs T, true, fun _ => ⟨⟨T, hT, rfl⟩, rfl⟩, fun h => (by rw [e] at h; cases h)⟩
  | false => exact ⟨[], false, fun h => (by rw [e] at h; cases h), fun _ => ⟨rfl, rfl⟩⟩
theorem LevA.len {vs L : List TBasin} {x : Bool} (h : LevA vs L x) : L.length ≤ 6 := by
  cases e : gBs vs with
  | true =>
    obtain ⟨⟨T, -, rfl⟩, -⟩ := h.1 e
    rw [lvK_len]; exact ((gBs_iff vs).1 e).1.2
  | false => rw [(h.2 e).1]; simp
theorem Lv.tot {vs : List TBasin} (h : goodBs vs) : ∀ T, (∀ t, t < T → ¬ lvStop (lvK vs t)) → totK (lvK vs T) vs.length = totK vs vs.length
  | 0, _ => rfl
  | T + 1, hs => by
    have ih := Lv.tot h T (fun t ht => hs t (by omega))
    have hg := lv_good h T (fun t ht => hs t (by omega))
    have st := lv_step hg (hs T (by omega))
    have := tot_move st.2.2.2.1
    rw [lvK_len] at this
    rw [lvK, this, ih]
    have e0 : (lvF (lvK vs T)).x0 = (fromI (lvK vs T) : Int) := rfl
    have e1 : (lvF (lvK vs T)).x1 = (toI (lvK vs T) : Int) := rfl
    unfold inF
    rw [e0, e1, if_neg (by omega), if_neg (by omega)]
    omega

/-! Refilling. -/
/-- What Basin i lacks at most behind the first t Flows. -/
def need (vs : List TBasin) (fs : List TFlow) (i : Nat) : Nat → Int
  | 0 => 0
  | t + 1 => max (need vs fs i t) (((moves vs fs (t + 1)).getD i noBasin).x1 - ((moves vs fs (t + 1)).getD i noBasin).x0)
def needs (vs : List TBasin) (fs : List TFlow) (t : Nat) : List Int := (List.range vs.length).map fun i => need vs fs i t
/-- The first k of them already behind one Flow more. -/
def needK (vs : List TBasin) (fs : List TFlow) (t k : Nat) : List Int := (List.range vs.length).map fun i => if i < k then need vs fs i (t + 1) else need vs fs i t
theorem needs_len (vs : List TBasin) (fs : List TFlow) (t : Nat) : (needs vs fs t).length = vs.length := by simp [needs]
theorem needK_len (vs : List TBasin) (fs : List TFlow) (t k : Nat) : (needK vs fs t k).length = vs.length := by simp [needK]
theorem needK_zero (vs : List TBasin) (fs : List TFlow) (t : Nat) : needK vs fs t 0 = needs vs fs t := by simp [needK, needs]
theorem needK_all (vs : List TBasin) (fs : List TFlow) (t : Nat) : needK vs fs t vs.length = needs vs fs (t + 1) := by
  unfold needK needs
  refine List.map_congr_left (fun i hi => ?_)
  rw [if_pos (List.mem_range.1 hi)]
theorem needK_set {vs : List TBasin} {fs : List TFlow} {t k : Nat} (hk : k < vs.length) : (needK vs fs t k).set k (need vs fs k (t + 1)) = needK vs fs t (k + 1) := by
  refine List.ext_getElem (by simp [needK]) (fun i h1 h2 => ?_)
  simp only [List.getElem_set, needK, List.getElem_map, List.getElem_range]
  by_cases e : k = i
  · subst e; rw [if_pos rfl, if_pos (by omega)]
  · rw [if_neg e]
    by_cases e2 : i < k
    · rw [if_pos e2, if_pos (by omega)]
    · rw [if_neg e2, if_neg (by omega)]
theorem needK_at {vs : List TBasin} {fs : List TFlow} {t k : Nat} (hk : k < vs.length) : (needK vs fs t k).getD k 0 = need vs fs k t := by
  rw [List.getD_eq_getElem?_getD, List.getElem?_eq_getElem (by rw [needK_len]; exact hk)]
  simp [needK]
theorem needs_zero (vs : List TBasin) (fs : List TFlow) : needs vs fs 0 = List.replicate vs.length 0 := by
  refine List.ext_getElem (by simp [needs]) (fun i h1 h2 => ?_)
  simp [needs, need]
theorem need_bd {vs : List TBasin} {fs : List TFlow} (h : canT vs fs) {i : Nat} (hi : i < vs.length) : ∀ t, t ≤ fs.length → 0 ≤ need vs fs i t ∧ need vs fs i t ≤ 100000 * ((t : Int) + 1)
  | 0, _ => by unfold need; omega
  | t + 1, ht => by
    have ih := need_bd h hi t (by omega)
    obtain ⟨b1, b2, b3, b4⟩ := moves_bd h (t + 1) ht i (by rw [moves_len]; exact hi)
    unfold need
    omega
def RefA (vs : List TBasin) (fs : List TFlow) (L : List Int) (x : Bool) : Prop := (gT vs fs = true → L = needs vs fs fs.length ∧ x = true) ∧ (gT vs fs = false → L = [] ∧ x = false)
theorem refA_ex (vs : List TBasin) (fs : List TFlow) : ∃ L x, RefA vs fs L x := by
  cases e : gT vs fs with
  | true => exact ⟨_, true, fun _ => ⟨rfl, rfl⟩, fun h => (by rw [e] at h; cases h)⟩
  | false => exact ⟨[], false, fun h => (by rw [e] at h; cases h), fun _ => ⟨rfl, rfl⟩⟩
theorem RefA.len {vs : List TBasin} {fs : List TFlow} {L : List Int} {x : Bool} (h : RefA vs fs L x) : L.length ≤ 6 := by
  cases e : gT vs fs with
  | true => rw [(h.1 e).1, needs_len]; exact ((gT_iff vs fs).1 e).1.1.2
  | false => rw [(h.2 e).1]; simp

/-! The other answers. -/
def MovA (vs : List TBasin) (f : TFlow) (L : List TBasin) (x : Bool) : Prop := (goodBs vs ∧ goodF vs.length f ∧ goodBs (move vs f) → L = move vs f ∧ x = true) ∧ (¬ (goodBs vs ∧ goodF vs.length f ∧ goodBs (move vs f)) → L = [] ∧ x = false)
theorem movA_ex (vs : List TBasin) (f : TFlow) : ∃ L x, MovA vs f L x := by
  by_cases e : goodBs vs ∧ goodF vs.length f ∧ goodBs (move vs f)
  · exact ⟨_, true, fun _ => ⟨rfl, rfl⟩, fun h => absurd e h⟩
  · exact ⟨[], false, fun h => absurd h e, fun _ => ⟨rfl, rfl⟩⟩
theorem MovA.len {vs : List TBasin} {f : TFlow} {L : List TBasin} {x : Bool} (h : MovA vs f L x) : L.length ≤ 6 := by
  by_cases e : goodBs vs ∧ goodF vs.length f ∧ goodBs (move vs f)
  · rw [(h.1 e).1, move_len]; exact e.1.1.2
  · rw [(h.2 e).1]; simp
def RunA (vs : List TBasin) (fs : List TFlow) (L : List TBasin) (n : Int) (x : Bool) : Prop :=
  (gT vs fs = true → L = moves vs fs (made vs fs fs.length) ∧ n = (made vs fs fs.length : Int) ∧ x = true) ∧ (gT vs fs = false → L = [] ∧ n = 0 ∧ x = false)
theorem runWA_ex (vs : List TBasin) (fs : List TFlow) : ∃ L n x, RunA vs fs L n x := by
  cases e : gT vs fs with
  | true => exact ⟨_, _, true, fun _ => ⟨rfl, rfl, rfl⟩, fun h => (by rw [e] at h; cases h)⟩
  | false => exact ⟨[], 0, false, fun h => (by rw [e] at h; cases h), fun _ => ⟨rfl, rfl, rfl⟩⟩
theorem RunA.len {vs : List TBasin} {fs : List TFlow} {L : List TBasin} {n : Int} {x : Bool} (h : RunA vs fs L n x) : L.length ≤ 6 := by
  cases e : gT vs fs with
  | true => rw [(h.1 e).1, moves_len]; exact ((gT_iff vs fs).1 e).1.1.2
  | false => rw [(h.2 e).1]; simp
def TotA (vs : List TBasin) (z : Int) (x : Bool) : Prop := (gBs vs = true → z = totK vs vs.length ∧ x = true) ∧ (gBs vs = false → z = 0 ∧ x = false)
theorem totA_ex (vs : List TBasin) : ∃ z x, TotA vs z x := by
  cases e : gBs vs with
  | true => exact ⟨_, true, fun _ => ⟨rfl, rfl⟩, fun h => (by rw [e] at h; cases h)⟩
  | false => exact ⟨0, false, fun h => (by rw [e] at h; cases h), fun _ => ⟨rfl, rfl⟩⟩
def NetA (vs : List TBasin) (fs : List TFlow) (z : Int) (x : Bool) : Prop := (gT vs fs = true → z = netK fs fs.length ∧ x = true) ∧ (gT vs fs = false → z = 0 ∧ x = false)
theorem netA_ex (vs : List TBasin) (fs : List TFlow) : ∃ z x, NetA vs fs z x := by
  cases e : gT vs fs with
  | true => exact ⟨_, true, fun _ => ⟨rfl, rfl⟩, fun h => (by rw [e] at h; cases h)⟩
  | false => exact ⟨0, false, fun h => (by rw [e] at h; cases h), fun _ => ⟨rfl, rfl⟩⟩
/-- The units that can flow at once. -/
def uniF (vs : List TBasin) (f : TFlow) : Int := if f.x0 = -1 then 100000 else upB (vs.getD f.x0.toNat noBasin)
def uniT (vs : List TBasin) (f : TFlow) : Int := if f.x1 = -1 then 100000 else dnB (vs.getD f.x1.toNat noBasin)
def units (vs : List TBasin) (f : TFlow) : Int := min (uniF vs f) (uniT vs f)
def MosA (vs : List TBasin) (f : TFlow) (z : Int) (x : Bool) : Prop := (goodBs vs ∧ goodF vs.length f → z = units vs f / f.x2 ∧ x = true) ∧ (¬ (goodBs vs ∧ goodF vs.length f) → z = 0 ∧ x = false)
theorem mosA_ex (vs : List TBasin) (f : TFlow) : ∃ z x, MosA vs f z x := by
  by_cases e : goodBs vs ∧ goodF vs.length f
  · exact ⟨_, true, fun _ => ⟨rfl, rfl⟩, fun h => absurd e h⟩
  · exact ⟨0, false, fun h => absurd h e, fun _ => ⟨rfl, rfl⟩⟩
theorem uniF_bd {vs : List TBasin} {f : TFlow} (h : goodBs vs) (hf : goodF vs.length f) : 0 ≤ uniF vs f ∧ uniF vs f ≤ 100000 := by
  obtain ⟨⟨h1, h2⟩, -⟩ := hf
  unfold uniF upB
  by_cases e : f.x0 = -1
  · rw [if_pos e]; omega
  · rw [if_neg e]
    have := h.2 f.x0.toNat (by omega)
    unfold goodB at this
    omega
theorem uniT_bd {vs : List TBasin} {f : TFlow} (h : goodBs vs) (hf : goodF vs.length f) : 0 ≤ uniT vs f ∧ uniT vs f ≤ 100000 := by
  obtain ⟨-, ⟨h1, h2⟩, -⟩ := hf
  unfold uniT dnB
  by_cases e : f.x1 = -1
  · rw [if_pos e]; omega
  · rw [if_neg e]
    have := h.2 f.x1.toNat (by omega)
    unfold goodB at this
    omega
/-- A Flow is possible exactly if there are as many units. -/
theorem move_ok {vs : List TBasin} {f : TFlow} (h : goodBs vs) (hf : goodF vs.length f) : goodBs (move vs f) ↔ f.x2 ≤ units vs f := by
  obtain ⟨⟨h1, h2⟩, ⟨h3, h4⟩, h5, h6, h7⟩ := hf
  have key : (∀ k, k < vs.length → goodB (mv f k (vs.getD k noBasin))) ↔ f.x2 ≤ uniF vs f ∧ f.x2 ≤ uniT vs f := by
    constructor
    · intro g
      constructor
      · unfold uniF
        by_cases e : f.x0 = -1
        · rw [if_pos e]; omega
        · rw [if_neg e]
          have gk := g f.x0.toNat (by omega)
          have hk := h.2 f.x0.toNat (by omega)
          unfold goodB mv at gk
          dsimp only at gk
          rw [if_neg (by omega), if_pos (by omega)] at gk
          unfold upB
          omega
      · unfold uniT
        by_cases e : f.x1 = -1
        · rw [if_pos e]; omega
        · rw [if_neg e]
          have gk := g f.x1.toNat (by omega)
          have hk := h.2 f.x1.toNat (by omega)
          unfold goodB mv at gk
          dsimp only at gk
          rw [if_pos (by omega), if_neg (by omega)] at gk
          unfold dnB
          omega
    · rintro ⟨ga, gb⟩ k hk
      have hb := h.2 k hk
      unfold goodB at hb ⊢
      unfold mv
      dsimp only
      by_cases e1 : (k : Int) = f.x1
      · rw [if_pos e1, if_neg (by omega)]
        unfold uniT dnB at gb
        rw [if_neg (by omega), show f.x1.toNat = k by omega] at gb
        omega
      · rw [if_neg e1]
        by_cases e0 : (k : Int) = f.x0
        · rw [if_pos e0]
          unfold uniF upB at ga
          rw [if_neg (by omega), show f.x0.toNat = k by omega] at ga
          omega
        · rw [if_neg e0]; exact hb
  unfold units
  have hm : f.x2 ≤ min (uniF vs f) (uniT vs f) ↔ f.x2 ≤ uniF vs f ∧ f.x2 ≤ uniT vs f := by omega
  rw [hm, ← key]
  unfold goodBs
  rw [move_len]
  exact ⟨fun g k hk => by have := g.2 k hk; rwa [move_at hk] at this, fun g => ⟨h.1, fun k hk => by rw [move_at hk]; exact g k hk⟩⟩
end Go.Proofs.Ytliebicnejbheaa
