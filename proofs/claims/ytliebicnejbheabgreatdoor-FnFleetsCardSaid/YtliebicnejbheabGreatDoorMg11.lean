/- Texts that are joined: Ints, VesPas, VesLig. -/
import Derived.Test.YtliebicnejbheabGreatDoorMg01
import Derived.Test.YtliebicnejbheabGreatDoorMg09
import Derived.Maps.AppendAt
import Derived.Test.YtliebicnejbheabGreatDoorMg10
import Derived.Lib.LazyBuf
/- A slice of integers that a call hands back, and the part of it that is there already. -/
namespace Go.Proofs.YtliebicnejbheabGreatDoor
open Go.RowKit Go.PlainAid Go.Sort

/-- The call hands back a slice of its own with the integers L, and b. -/
def GivesInts (w : World) (L : List Int) (b : Bool) (e : Ending) (w' : World) : Prop :=
  ∃ g c, e = .returned (.tuple #[.slice (some ⟨g, 0, none⟩) L.length c, .bool b]) ∧ w.heap.size ≤ g ∧ w'.ownsRow w.heap.size 3 1 (.slice (some ⟨g, 0, none⟩) L.length c) L.length (L.map (.int .i64)) ∧ Below w.heap.size w w'
/-- The first k of the integers L lie in a slice of one's own. -/
def Part (w w' : World) (L : List Int) (k : Nat) (v : Value) : Prop :=
  ∃ g c, v = .slice (some ⟨g, 0, none⟩) k c ∧ w.heap.size ≤ g ∧ w'.ownsRow w.heap.size 3 1 (.slice (some ⟨g, 0, none⟩) k c) k ((L.take k).map (.int .i64)) ∧ Below w.heap.size w w'
theorem Part.nil {w w0 : World} (hb : Below w.heap.size w w0) (L : List Int) : Part w (w0.alloc (.cells #[] 3)) L 0 (.slice (some ⟨w0.heap.size, 0, none⟩) 0 0) :=
  ⟨w0.heap.size, 0, rfl, hb.size, own_low (World.ownsRow_made w0 #[] 0 (Nat.le_refl _) (by unfold maxLen; omega) rfl) hb.size, hb.alloc hb.size _⟩

theorem Part.below {w w0 w' : World} {L : List Int} {k : Nat} {v : Value} (h : Part w w0 L k v) (hb : Go.RowKit.Below w0.heap.size w0 w') : Part w w' L k v := by
  obtain ⟨g, c, rfl, hg, ho, hb0⟩ := h
  exact ⟨g, c, rfl, hg, ho.kept (grownBelow hb none) (.inr (by simp [Value.ownBlock])), hb0.trans (hb.mono hb0.size)⟩
theorem Part.gives {w w' : World} {L : List Int} {k : Nat} {v : Value} (h : Part w w' L k v) (hk : k = L.length) (b : Bool) : GivesInts w L b (.returned (.tuple #[v, .bool b])) w' := by
  obtain ⟨g, c, rfl, hg, ho, hb⟩ := h
  subst hk
  rw [List.take_length] at ho
  exact ⟨g, c, rfl, hg, ho, hb⟩

end Go.Proofs.YtliebicnejbheabGreatDoor

/- Chapter 3: the vessels that pass a depth, the model and the program. -/
namespace Go.Proofs.YtliebicnejbheabGreatDoor
open Go.RowKit Go.PlainAid Go.Sort

/-- The integers l lie in a slice of one's own. -/
def OwnL (w w' : World) (l : List Int) (v : Value) : Prop :=
  ∃ g c, v = .slice (some ⟨g, 0, none⟩) l.length c ∧ w.heap.size ≤ g ∧ w'.ownsRow w.heap.size 3 1 (.slice (some ⟨g, 0, none⟩) l.length c) l.length (l.map (.int .i64)) ∧ Below w.heap.size w w'
theorem OwnL.nil {w w0 : World} (hb : Below w.heap.size w w0) : OwnL w (w0.alloc (.cells #[] 3)) [] (.slice (some ⟨w0.heap.size, 0, none⟩) 0 0) :=
  ⟨w0.heap.size, 0, rfl, hb.size, own_low (World.ownsRow_made w0 #[] 0 (Nat.le_refl _) (by unfold maxLen; omega) rfl) hb.size, hb.alloc hb.size _⟩
theorem OwnL.below {w w0 w' : World} {l : List Int} {v : Value} (h : OwnL w w0 l v) (hb : Go.RowKit.Below w0.heap.size w0 w') : OwnL w w' l v := by
  obtain ⟨g, c, rfl, hg, ho, hb0⟩ := h
  exact ⟨g, c, rfl, hg, ho.kept (grownBelow hb none) (.inr (by simp [Value.ownBlock])), hb0.trans (hb.mono hb0.size)⟩
theorem OwnL.gives {w w' : World} {l : List Int} {v : Value} (h : OwnL w w' l v) (b : Bool) : GivesInts w l b (.returned (.tuple #[v, .bool b])) w' := by
  obtain ⟨g, c, rfl, hg, ho, hb⟩ := h
  exact ⟨g, c, rfl, hg, ho, hb⟩
theorem OwnL.low {w w' : World} {l : List Int} {v : Value} (h : OwnL w w' l v) : Go.RowKit.Below w.heap.size w w' := by
  obtain ⟨g, c, rfl, hg, ho, hb⟩ := h
  exact hb

/-- The Ids of those of the first k vessels that pass. -/
def pasL (vs : List Ves) (depth keel : Int) : Nat → List Int
  | 0 => []
  | k + 1 => if (vs.getD k noVes).dr + keel ≤ depth then pasL vs depth keel k ++ [(vs.getD k noVes).id] else pasL vs depth keel k
theorem pasL_len (vs : List Ves) (depth keel : Int) : ∀ k, (pasL vs depth keel k).length ≤ k
  | 0 => Nat.le_refl _
  | k + 1 => by
    have ih := pasL_len vs depth keel k
    rw [pasL]
    split
    · rw [List.length_append, List.length_singleton]; omega
    · omega

/-- What both are asked for. -/
theorem pas_two (vs : List Ves) (n : Nat) (hn : vs.length = n) (depth keel : Int) : ∃ (L : List Int) (x : Bool), L.length ≤ 8 ∧
    (gF vs = true → (0 ≤ depth ∧ depth ≤ 1000) → (0 ≤ keel ∧ keel ≤ 100) → L = pasL vs depth keel n ∧ x = true) ∧
    (¬ (gF vs = true ∧ (0 ≤ depth ∧ depth ≤ 1000) ∧ (0 ≤ keel ∧ keel ≤ 100)) → L = [] ∧ x = false) := by
  by_cases h : gF vs = true ∧ (0 ≤ depth ∧ depth ≤ 1000) ∧ (0 ≤ keel ∧ keel ≤ 100)
  · exact ⟨pasL vs depth keel n, true, by have h1 := pasL_len vs depth keel n; have h2 := ((gF_iff vs).1 h.1).1; omega, fun _ _ _ => ⟨rfl, rfl⟩, fun g => absurd h g⟩
  · exact ⟨[], false, by simp, fun h1 h2 h3 => absurd ⟨h1, h2, h3⟩ h, fun _ => ⟨rfl, rfl⟩⟩
end Go.Proofs.YtliebicnejbheabGreatDoor

/- Chapter 3: a fleet with a lightened vessel, the model and the program. -/
namespace Go.Proofs.YtliebicnejbheabGreatDoor
open Go.RowKit Go.PlainAid Go.Sort

theorem flatV_one : ∀ (vs : List Ves), ∀ u ∈ flatV vs, u.oneCell' = true
  | [], u, h => by simp [flatV] at h
  | v :: t, u, h => by
    simp only [flatV, List.mem_cons] at h
    rcases h with rfl | rfl | rfl | rfl | rfl | rfl | h
    · rfl
    · rfl
    · rfl
    · rfl
    · rfl
    · rfl
    · exact flatV_one t u h
theorem flatV_set : ∀ (vs : List Ves) (k : Nat) (v : Ves), k < vs.length →
    ((((((flatV vs).set (k * 6) (.int .i64 v.id)).set (k * 6 + 1) (.string v.name)).set (k * 6 + 2) (.int .i64 v.len)).set (k * 6 + 3) (.int .i64 v.wid)).set (k * 6 + 4) (.int .i64 v.dr)).set (k * 6 + 5) (.int .i64 v.kind) = flatV (vs.set k v)
  | [], k, v, h => absurd h (by simp)
  | x :: t, 0, v, _ => rfl
  | x :: t, k + 1, v, h => by
    have ih := flatV_set t k v (by simpa using h)
    have e : (k + 1) * 6 = k * 6 + 1 + 1 + 1 + 1 + 1 + 1 := by omega
    rw [e]
    simp only [flatV, List.set_cons_succ]
    show _ :: _ :: _ :: _ :: _ :: _ :: _ = _
    rw [ih]
theorem flatV_dr : ∀ (vs : List Ves) (k : Nat) (z : Int) (h : k < vs.length), (flatV vs).set (k * 6 + 4) (.int .i64 z) = flatV (vs.set k ⟨vs[k].id, vs[k].name, vs[k].len, vs[k].wid, z, vs[k].kind⟩)
  | [], k, z, h => absurd h (by simp)
  | x :: t, 0, z, _ => rfl
  | x :: t, k + 1, z, h => by
    have ih := flatV_dr t k z (by simpa using h)
    have e : (k + 1) * 6 + 4 = k * 6 + 4 + 1 + 1 + 1 + 1 + 1 + 1 := by omega
    rw [e]
    simp only [flatV, List.set_cons_succ, List.getElem_cons_succ]
    rw [ih]
/-- The vessel at k lightened. -/
def lt (vs : List Ves) (k : Nat) (z : Int) : List Ves := vs.set k ⟨(vs.getD k noVes).id, (vs.getD k noVes).name, (vs.getD k noVes).len, (vs.getD k noVes).wid, (vs.getD k noVes).dr - z, (vs.getD k noVes).kind⟩
theorem lt_len (vs : List Ves) (k : Nat) (z : Int) : (lt vs k z).length = vs.length := by simp [lt]
theorem lt_flat {vs : List Ves} {k : Nat} (z : Int) (h : k < vs.length) : (flatV vs).set (k * 6 + 4) (.int .i64 ((vs.getD k noVes).dr - z)) = flatV (lt vs k z) := by
  rw [flatV_dr vs k _ h]
  unfold lt
  rw [getV h]
theorem lt_names {vs : List Ves} {k : Nat} {z : Int} (h : k < vs.length) (hs : ∀ v ∈ vs, v.name.size ≤ maxLen) : ∀ v ∈ lt vs k z, v.name.size ≤ maxLen := by
  intro v hv
  rcases List.mem_or_eq_of_mem_set hv with h1 | h1
  · exact hs v h1
  · rw [h1, getV h]
    have := hs _ (List.getElem_mem h)
    exact this
/-- The call hands back a row of vessels of its own, and x. -/
def GivesVs (w : World) (L : List Ves) (x : Bool) (e : Ending) (w' : World) : Prop :=
  ∃ g c, e = .returned (.tuple #[.slice (some ⟨g, 0, none⟩) L.length c, .bool x]) ∧ w.heap.size ≤ g ∧ w'.ownsRow w.heap.size 25 6 (.slice (some ⟨g, 0, none⟩) L.length c) L.length (flatV L) ∧ Below w.heap.size w w'
theorem givesVs_nil {w w0 : World} (hb : Below w.heap.size w w0) : GivesVs w [] false (.returned (.tuple #[.slice (some ⟨w0.heap.size, 0, none⟩) 0 0, .bool false])) (w0.alloc (.cells #[] 25)) :=
  ⟨w0.heap.size, 0, rfl, hb.size, own_low (World.ownsRow_made w0 #[] 0 (Nat.le_refl _) (by unfold maxLen; omega) rfl) hb.size, hb.alloc hb.size _⟩
theorem asc_of {vs : List Ves} (h : goodF vs) : Asc vs := by
  intro i j hij hj
  obtain ⟨d, rfl⟩ : ∃ d, j = i + 1 + d := ⟨j - (i + 1), by omega⟩
  clear hij
  induction d with
  | zero => exact (h.2 (i + 1) hj).2.1 (by omega)
  | succ d ih =>
    have h1 := ih (by omega)
    have h2 := (h.2 (i + 1 + (d + 1)) hj).2.1 (by omega)
    rw [show i + 1 + (d + 1) - 1 = i + 1 + d by omega] at h2
    omega


/-- The first of the first k vessels with this Id. -/
def fnd (vs : List Ves) (t : Int) : Nat → Int
  | 0 => -1
  | k + 1 => if fnd vs t k < 0 ∧ (vs.getD k noVes).id = t then (k : Int) else fnd vs t k
theorem fnd_none {vs : List Ves} {t : Int} : ∀ k, (∀ j, j < k → (vs.getD j noVes).id ≠ t) → fnd vs t k = -1
  | 0, _ => rfl
  | k + 1, h => by
    rw [fnd, fnd_none k (fun j hj => h j (by omega)), if_neg (fun g => h k (by omega) g.2)]
theorem fnd_hit {vs : List Ves} {t : Int} {k : Nat} (h : ∀ j, j < k → (vs.getD j noVes).id ≠ t) (hk : (vs.getD k noVes).id = t) : ∀ d, fnd vs t (k + 1 + d) = k
  | 0 => by
    show fnd vs t (k + 1) = k
    rw [fnd, fnd_none k h, if_pos ⟨by omega, hk⟩]
  | d + 1 => by
    have ih := fnd_hit h hk d
    show fnd vs t (k + 1 + d + 1) = k
    rw [fnd, ih, if_neg (by omega)]
theorem fnd_or (vs : List Ves) (t : Int) (n : Nat) : (∀ j, j < n → (vs.getD j noVes).id ≠ t) ∨ ∃ k, k < n ∧ (vs.getD k noVes).id = t ∧ (∀ j, j < k → (vs.getD j noVes).id ≠ t) := by
  induction n with
  | zero => exact .inl (fun j hj => absurd hj (by omega))
  | succ n ih =>
    rcases ih with h | ⟨k, hk, h1, h2⟩
    · by_cases e : (vs.getD n noVes).id = t
      · exact .inr ⟨n, by omega, e, h⟩
      · exact .inl (fun j hj => by
          rcases Nat.lt_succ_iff_lt_or_eq.1 hj with g | g
          · exact h j g
          · rw [g]; exact e)
    · exact .inr ⟨k, by omega, h1, h2⟩

/-- What LightenVessel answers. -/
structure Light (vs : List Ves) (n : Nat) (t z : Int) (L : List Ves) (x : Bool) : Prop where
  yes : ∀ k, k < n → gF vs = true → (vs.getD k noVes).id = t → 1 ≤ z → gF (lt vs k z) = true → L = lt vs k z ∧ x = true
  no : (∀ k, k < n → gF vs = true → (vs.getD k noVes).id = t → 1 ≤ z → gF (lt vs k z) = true → False) → L = [] ∧ x = false
theorem Light.bad {vs : List Ves} {n : Nat} {t z : Int} {L : List Ves} {x : Bool} (h : Light vs n t z L x) (g : gF vs = false) : L = [] ∧ x = false := h.no (fun _ _ e => by rw [g] at e; cases e)
theorem Light.neg {vs : List Ves} {n : Nat} {t z : Int} {L : List Ves} {x : Bool} (h : Light vs n t z L x) (g : ¬ 1 ≤ z) : L = [] ∧ x = false := h.no (fun _ _ _ _ e => absurd e g)
theorem Light.miss {vs : List Ves} {n : Nat} {t z : Int} {L : List Ves} {x : Bool} (h : Light vs n t z L x) (g : ∀ j, j < n → (vs.getD j noVes).id ≠ t) : L = [] ∧ x = false := h.no (fun k hk _ e => absurd e (g k hk))
theorem lt_bad {vs : List Ves} {k : Nat} {z : Int} (hk : k < vs.length) (hg : gF vs = true) (h : 500 < z) : gF (lt vs k z) = false := gF_no (fun g => by
  have h1 := (g.2 k (by rw [lt_len]; exact hk)).1
  have h2 := (((gF_iff vs).1 hg).2 k hk).1
  unfold lt at h1
  rw [List.getD_eq_getElem?_getD, List.getElem?_set_self hk] at h1
  have h3 := h1.2.2.2.2.1.1
  have h4 := h2.2.2.2.2.1.2
  simp only [Option.getD_some] at h3
  omega)
theorem Light.big {vs : List Ves} {n : Nat} {t z : Int} {L : List Ves} {x : Bool} (h : Light vs n t z L x) (hn : vs.length = n) (g : 500 < z) : L = [] ∧ x = false :=
  h.no (fun k hk e1 _ _ e2 => by rw [lt_bad (by rw [hn]; exact hk) e1 g] at e2; cases e2)
theorem fleet_one {vs : List Ves} {n : Nat} (hn : vs.length = n) (hg : gF vs = true) {j k : Nat} (hj : j < n) (hk : k < n) (h : (vs.getD j noVes).id = (vs.getD k noVes).id) : j = k := by
  have ha := asc_of ((gF_iff vs).1 hg)
  rcases Nat.lt_trichotomy j k with h1 | h1 | h1
  · have := ha j k h1 (by omega); omega
  · exact h1
  · have := ha k j h1 (by omega); omega
theorem Light.fails {vs : List Ves} {n : Nat} {t z : Int} {L : List Ves} {x : Bool} (h : Light vs n t z L x) (hn : vs.length = n) (hg : gF vs = true) {k : Nat} (hk : k < n) (he : (vs.getD k noVes).id = t) (g : gF (lt vs k z) = false) : L = [] ∧ x = false :=
  h.no (fun j hj _ e _ e2 => by
    obtain rfl := fleet_one hn hg hj hk (e.trans he.symm)
    rw [g] at e2
    cases e2)
theorem light_ex (vs : List Ves) (n : Nat) (hn : vs.length = n) (t z : Int) : ∃ (L : List Ves) (x : Bool), L.length ≤ 8 ∧ (∀ v ∈ L, v.name.size ≤ maxLen) ∧ Light vs n t z L x := by
  by_cases hg : gF vs = true
  · rcases fnd_or vs t n with h | ⟨k, hk, he, hf⟩
    · exact ⟨[], false, by simp, by simp, ⟨fun k hk _ e => absurd e (h k hk), fun _ => ⟨rfl, rfl⟩⟩⟩
    · by_cases hl : 1 ≤ z ∧ gF (lt vs k z) = true
      · refine ⟨lt vs k z, true, by rw [lt_len]; exact ((gF_iff vs).1 hg).1, fun v hv => ?_, ⟨fun j hj _ e _ _ => ?_, fun g => (g k hk hg he hl.1 hl.2).elim⟩⟩
        · obtain ⟨i, hi, rfl⟩ := List.mem_iff_getElem.1 hv
          have := (((gF_iff _).1 hl.2).2 i hi).1.2.1.1.2
          rw [getV hi] at this
          unfold maxLen
          omega
        · obtain rfl := fleet_one hn hg hj hk (e.trans he.symm)
          exact ⟨rfl, rfl⟩
      · refine ⟨[], false, by simp, by simp, ⟨fun j hj _ e h1 h2 => ?_, fun _ => ⟨rfl, rfl⟩⟩⟩
        obtain rfl := fleet_one hn hg hj hk (e.trans he.symm)
        exact absurd ⟨h1, h2⟩ hl
  · exact ⟨[], false, by simp, by simp, ⟨fun k hk g => absurd g hg, fun _ => ⟨rfl, rfl⟩⟩⟩
end Go.Proofs.YtliebicnejbheabGreatDoor
