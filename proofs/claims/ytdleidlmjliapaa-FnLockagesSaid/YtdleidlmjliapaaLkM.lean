/- Chapter 8: the mathematics: valid arrivals, orders of them, the lockages of an order. -/
import Derived.Test.YtdleidlmjliapaaSArrival
import Derived.Test.YtdleidlmjliapaaSlockage
namespace Go.Proofs.Ytdleidlmjliapaa
set_option linter.unusedVariables false

def goodA (v : TArrival) : Prop := (1 ≤ v.x0 ∧ v.x0 ≤ 99) ∧ (0 ≤ v.x2 ∧ v.x2 ≤ 9999) ∧ (1 ≤ v.x3 ∧ v.x3 ≤ 9)
instance (v : TArrival) : Decidable (goodA v) := by unfold goodA; infer_instance
def okAs (vs : List TArrival) (k : Nat) : Prop := goodA (vs.getD k noArrival) ∧ (0 < k → (vs.getD (k - 1) noArrival).x0 < (vs.getD k noArrival).x0)
def goodAs (vs : List TArrival) : Prop := vs.length ≤ 6 ∧ ∀ k, k < vs.length → okAs vs k
noncomputable def gAs (vs : List TArrival) : Bool := open Classical in decide (goodAs vs)
theorem gAs_iff (vs : List TArrival) : gAs vs = true ↔ goodAs vs := by unfold gAs; simp
theorem gAs_yes {vs : List TArrival} (h : goodAs vs) : gAs vs = true := (gAs_iff vs).2 h
theorem gAs_no {vs : List TArrival} (h : ¬ goodAs vs) : gAs vs = false := by unfold gAs; simp [h]
/-- The Ids ascend. -/
theorem ids_lt {vs : List TArrival} (h : goodAs vs) : ∀ {j k : Nat}, j < k → k < vs.length → (vs.getD j noArrival).x0 < (vs.getD k noArrival).x0
  | j, 0, h1, _ => absurd h1 (by omega)
  | j, k + 1, h1, h2 => by
    have h3 := (h.2 (k + 1) h2).2 (by omega)
    rw [Nat.add_sub_cancel] at h3
    rcases Nat.lt_succ_iff_lt_or_eq.1 h1 with h4 | rfl
    · have := ids_lt h h4 (by omega); omega
    · exact h3
theorem ids_ne {vs : List TArrival} (h : goodAs vs) {j k : Nat} (hj : j < vs.length) (hk : k < vs.length) (hne : j ≠ k) : (vs.getD j noArrival).x0 ≠ (vs.getD k noArrival).x0 := by
  rcases Nat.lt_or_gt_of_ne hne with h1 | h1
  · have := ids_lt h h1 hk; omega
  · have := ids_lt h h1 hj; omega

/-- One comes before another. -/
def bef (a b : TArrival) : Prop := a.x2 < b.x2 ∨ a.x2 = b.x2 ∧ a.x0 < b.x0
instance (a b : TArrival) : Decidable (bef a b) := by unfold bef; infer_instance
theorem bef_irr (a : TArrival) : ¬ bef a a := by unfold bef; omega
theorem bef_asym {a b : TArrival} (h : bef a b) : ¬ bef b a := by unfold bef at *; omega
theorem bef_trans {a b c : TArrival} (h : bef a b) (k : bef b c) : bef a c := by unfold bef at *; omega
theorem bef_tri {a b : TArrival} (h : ¬ bef a b) (hne : a.x0 ≠ b.x0) : bef b a := by unfold bef at *; omega
def atA (vs : List TArrival) (i : Int) : TArrival := vs.getD i.toNat noArrival
/-- It may follow those that have begun. -/
def nextA (vs : List TArrival) (B : List Int) (i : Int) : Prop := i ∉ B ∧ ∀ k, k < vs.length → (vs.getD k noArrival).x1 = (atA vs i).x1 → bef (vs.getD k noArrival) (atA vs i) → (k : Int) ∈ B
noncomputable def nxA (vs : List TArrival) (B : List Int) (i : Int) : Bool := open Classical in decide (nextA vs B i)
theorem nxA_iff (vs : List TArrival) (B : List Int) (i : Int) : nxA vs B i = true ↔ nextA vs B i := by unfold nxA; simp
/-- Indices of the list. -/
def inA (n : Nat) (i : Int) : Prop := 0 ≤ i ∧ i ≤ (n : Int) - 1
instance (n : Nat) (i : Int) : Decidable (inA n i) := by unfold inA; infer_instance
def okO (vs : List TArrival) (os : List Int) (p : Nat) : Prop := inA vs.length (os.getD p 0) ∧ nextA vs (os.take p) (os.getD p 0)
def OrdA (vs : List TArrival) (os : List Int) : Prop := goodAs vs ∧ os.length = vs.length ∧ ∀ p, p < os.length → okO vs os p
noncomputable def oA (vs : List TArrival) (os : List Int) : Bool := open Classical in decide (OrdA vs os)
theorem oA_iff (vs : List TArrival) (os : List Int) : oA vs os = true ↔ OrdA vs os := by unfold oA; simp
theorem oA_yes {vs : List TArrival} {os : List Int} (h : OrdA vs os) : oA vs os = true := (oA_iff vs os).2 h
theorem oA_no {vs : List TArrival} {os : List Int} (h : ¬ OrdA vs os) : oA vs os = false := by unfold oA; simp [h]

theorem nodup_le : ∀ (l m : List Int), l.Nodup → (∀ x ∈ l, x ∈ m) → l.length ≤ m.length
  | [], m, _, _ => Nat.zero_le _
  | a :: t, m, hn, hs => by
    have ha := hs a (by simp)
    have h1 := nodup_le t (m.erase a) (List.nodup_cons.1 hn).2 (fun x hx => (List.mem_erase_of_ne (by rintro rfl; exact (List.nodup_cons.1 hn).1 hx)).2 (hs x (by simp [hx])))
    have h2 := List.length_erase_of_mem ha
    have h3 := List.length_pos_of_mem ha
    simp only [List.length_cons]
    omega
/-- As many different indices as there are are all of them. -/
theorem all_in {n : Nat} {os : List Int} (hn : os.Nodup) (hl : os.length = n) (hr : ∀ z ∈ os, inA n z) {k : Nat} (hk : k < n) : (k : Int) ∈ os := by
  by_cases h : (k : Int) ∈ os
  · exact h
  · have := nodup_le ((k : Int) :: os) ((List.range n).map (fun j : Nat => (j : Int))) (List.nodup_cons.2 ⟨h, hn⟩) (fun x hx => by
      rw [List.mem_map]
      rcases List.mem_cons.1 hx with rfl | hx
      · exact ⟨k, List.mem_range.2 hk, rfl⟩
      · have h1 := hr x hx
        unfold inA at h1
        exact ⟨x.toNat, List.mem_range.2 (by omega), by omega⟩)
    simp at this
    omega
theorem getD_mem {os : List Int} {p : Nat} (h : p < os.length) : os.getD p 0 ∈ os := by
  rw [List.getD_eq_getElem?_getD, List.getElem?_eq_getElem h]; exact List.getElem_mem h
theorem mem_take_getD {os : List Int} {p q : Nat} (h : q < p) (hp : p ≤ os.length) : os.getD q 0 ∈ os.take p := by
  rw [List.mem_take_iff_getElem]
  exact ⟨q, by omega, by rw [List.getD_eq_getElem?_getD, List.getElem?_eq_getElem (by omega)]; rfl⟩
theorem take_mem {os : List Int} {p : Nat} {z : Int} (h : z ∈ os.take p) : ∃ q, q < p ∧ q < os.length ∧ os.getD q 0 = z := by
  rw [List.mem_take_iff_getElem] at h
  obtain ⟨q, hq, e⟩ := h
  exact ⟨q, by omega, by omega, by rw [List.getD_eq_getElem?_getD, List.getElem?_eq_getElem (by omega)]; exact e⟩
theorem nodup_getD {os : List Int} (h : ∀ p, p < os.length → os.getD p 0 ∉ os.take p) : os.Nodup := by
  rw [List.Nodup, List.pairwise_iff_getElem]
  intro i j hi hj hij e
  refine h j hj ?_
  have := mem_take_getD (os := os) hij (by omega)
  rw [List.getD_eq_getElem?_getD, List.getElem?_eq_getElem hi] at this
  rw [List.getD_eq_getElem?_getD, List.getElem?_eq_getElem hj]
  simp only [Option.getD_some] at this ⊢
  rw [← e]; exact this
/-- The order as the program asks for it. -/
def okP (vs : List TArrival) (os : List Int) (p : Nat) : Prop := ∀ q, q < p → ¬ ((atA vs (os.getD q 0)).x1 = (atA vs (os.getD p 0)).x1 ∧ ¬ bef (atA vs (os.getD q 0)) (atA vs (os.getD p 0)))
def OrdP (vs : List TArrival) (os : List Int) : Prop := goodAs vs ∧ os.length = vs.length ∧ (∀ z ∈ os, inA vs.length z) ∧ ∀ p, p < os.length → okP vs os p
theorem atA_cast (vs : List TArrival) (k : Nat) : atA vs (k : Int) = vs.getD k noArrival := by unfold atA; simp
theorem ordP_iff (vs : List TArrival) (os : List Int) : OrdP vs os ↔ OrdA vs os := by
  constructor
  · rintro ⟨hg, hl, hr, hp⟩
    have hnd : os.Nodup := nodup_getD (fun p hpl hm => by
      obtain ⟨q, hq, _, e⟩ := take_mem hm
      exact hp p hpl q hq ⟨by rw [e], by rw [e]; exact bef_irr _⟩)
    refine ⟨hg, hl, fun p hpl => ⟨hr _ (getD_mem hpl), ?_, ?_⟩⟩
    · intro hm
      obtain ⟨q, hq, _, e⟩ := take_mem hm
      exact hp p hpl q hq ⟨by rw [e], by rw [e]; exact bef_irr _⟩
    · intro k hk hx hb
      have hmem := all_in hnd hl hr hk
      obtain ⟨q, hq, e⟩ := List.getElem_of_mem hmem
      have e' : os.getD q 0 = (k : Int) := by rw [List.getD_eq_getElem?_getD, List.getElem?_eq_getElem hq]; exact e
      by_cases hqp : q < p
      · rw [← e']; exact mem_take_getD hqp (by omega)
      · exfalso
        by_cases hqe : q = p
        · subst hqe
          rw [e', atA_cast] at hb
          exact bef_irr _ hb
        · refine hp q hq p (by omega) ?_
          rw [e', atA_cast]
          exact ⟨hx.symm, bef_asym hb⟩
  · rintro ⟨hg, hl, hp⟩
    have hr : ∀ z ∈ os, inA vs.length z := fun z hz => by
      obtain ⟨q, hq, e⟩ := List.getElem_of_mem hz
      have := (hp q hq).1
      rw [List.getD_eq_getElem?_getD, List.getElem?_eq_getElem hq] at this
      exact e ▸ this
    refine ⟨hg, hl, hr, fun p hpl q hq ⟨hx, hb⟩ => ?_⟩
    have hi := hr _ (getD_mem hpl)
    have hj := hr _ (getD_mem (show q < os.length by omega))
    have hne : os.getD q 0 ≠ os.getD p 0 := fun e => (hp p hpl).2.1 (e ▸ mem_take_getD hq (by omega))
    have hid : (atA vs (os.getD q 0)).x0 ≠ (atA vs (os.getD p 0)).x0 := by
      unfold atA
      unfold inA at hi hj
      exact ids_ne hg (by omega) (by omega) (by omega)
    have hb2 := bef_tri hb hid
    have hk : (os.getD p 0).toNat < vs.length := by unfold inA at hi; omega
    have hc : ((os.getD p 0).toNat : Int) = os.getD p 0 := by unfold inA at hi; omega
    have := (hp q (by omega)).2.2 (os.getD p 0).toNat hk hx.symm hb2
    rw [hc] at this
    obtain ⟨q2, hq2, _, e⟩ := take_mem this
    exact (hp p hpl).2.1 (e ▸ mem_take_getD (show q2 < p by omega) (by omega))

/-- One lockage more: those so far, when the chamber is free, whether it is high. -/
def lkStep (vs : List TArrival) (m : Int) (s : List Tlockage × Int × Bool) (i : Int) : List Tlockage × Int × Bool :=
  (s.1 ++ [⟨i, (atA vs i).x1 == s.2.2, max (if ((atA vs i).x1 == s.2.2) = true then s.2.1 + m else s.2.1) (atA vs i).x2, max (if ((atA vs i).x1 == s.2.2) = true then s.2.1 + m else s.2.1) (atA vs i).x2 - (atA vs i).x2⟩],
    max (if ((atA vs i).x1 == s.2.2) = true then s.2.1 + m else s.2.1) (atA vs i).x2 + m, (atA vs i).x1)
def lkSt (vs : List TArrival) (m : Int) (h : Bool) (os : List Int) : List Tlockage × Int × Bool := os.foldl (lkStep vs m) ([], 0, h)
def lks (vs : List TArrival) (m : Int) (h : Bool) (os : List Int) : List Tlockage := (lkSt vs m h os).1
theorem lkSt_snoc (vs : List TArrival) (m : Int) (h : Bool) (os : List Int) (i : Int) : lkSt vs m h (os ++ [i]) = lkStep vs m (lkSt vs m h os) i := by
  unfold lkSt; rw [List.foldl_append]; rfl
theorem take_snoc {os : List Int} {k : Nat} (h : k < os.length) : os.take (k + 1) = os.take k ++ [os.getD k 0] := by
  rw [List.take_add_one, List.getD_eq_getElem?_getD, List.getElem?_eq_getElem h]; rfl
theorem lkSt_take (vs : List TArrival) (m : Int) (h : Bool) {os : List Int} {k : Nat} (hk : k < os.length) : lkSt vs m h (os.take (k + 1)) = lkStep vs m (lkSt vs m h (os.take k)) (os.getD k 0) := by
  rw [take_snoc hk, lkSt_snoc]
theorem getD_appL {α : Type} {a b : List α} {j : Nat} (d : α) (h : j < a.length) : (a ++ b).getD j d = a.getD j d := by
  rw [List.getD_eq_getElem?_getD, List.getElem?_append_left h, ← List.getD_eq_getElem?_getD]
theorem getD_appR {α : Type} {a : List α} {j : Nat} (d x : α) (h : a.length = j) : (a ++ [x]).getD j d = x := by
  rw [List.getD_eq_getElem?_getD, List.getElem?_append_right (by omega), h]; simp
/-- What is known of the first k. -/
structure LkB (vs : List TArrival) (m : Int) (h : Bool) (os : List Int) (k : Nat) : Prop where
  len : (lkSt vs m h (os.take k)).1.length = k
  free : 0 ≤ (lkSt vs m h (os.take k)).2.1 ∧ (lkSt vs m h (os.take k)).2.1 ≤ 9999 + 120 * k
  each : ∀ j, j < k → (((lkSt vs m h (os.take k)).1.getD j nolockage).x0 = os.getD j 0 ∧ (0 ≤ ((lkSt vs m h (os.take k)).1.getD j nolockage).x2 ∧ ((lkSt vs m h (os.take k)).1.getD j nolockage).x2 ≤ 9999 + 120 * k) ∧
    ((lkSt vs m h (os.take k)).1.getD j nolockage).x3 = ((lkSt vs m h (os.take k)).1.getD j nolockage).x2 - (atA vs (os.getD j 0)).x2 ∧ 0 ≤ ((lkSt vs m h (os.take k)).1.getD j nolockage).x3)
theorem lkB {vs : List TArrival} {m : Int} {h : Bool} {os : List Int} (hm : 1 ≤ m ∧ m ≤ 60) (hv : ∀ p, p < os.length → goodA (atA vs (os.getD p 0))) : ∀ {k : Nat}, k ≤ os.length → LkB vs m h os k
  | 0, _ => ⟨rfl, by simp [lkSt], fun j hj => absurd hj (by omega)⟩
  | k + 1, hk => by
    have ih := lkB (h := h) hm hv (k := k) (by omega)
    have hg := (hv k (by omega)).2.1
    have e := lkSt_take vs m h (os := os) (k := k) (by omega)
    obtain ⟨hl, hf, he⟩ := ih
    refine ⟨?_, ?_, fun j hj => ?_⟩
    · rw [e, lkStep, List.length_append, hl]; rfl
    · rw [e, lkStep]
      dsimp only
      split <;> omega
    · rw [e, lkStep]
      dsimp only
      rcases Nat.lt_succ_iff_lt_or_eq.1 hj with h1 | rfl
      · rw [getD_appL _ (by omega)]
        have := he j h1
        omega
      · rw [getD_appR _ _ hl]
        dsimp only
        refine ⟨rfl, ?_, rfl, ?_⟩
        · split <;> omega
        · omega
theorem lks_at {vs : List TArrival} {m : Int} {h : Bool} {os : List Int} {k j : Nat} (hk : k ≤ os.length) (hm : 1 ≤ m ∧ m ≤ 60) (hv : ∀ p, p < os.length → goodA (atA vs (os.getD p 0))) (hj : j < k) :
    (lks vs m h (os.take k)).getD j nolockage = (lks vs m h os).getD j nolockage := by
  suffices ∀ d, k + d ≤ os.length → (lks vs m h (os.take (k + d))).getD j nolockage = (lks vs m h (os.take k)).getD j nolockage by
    have := this (os.length - k) (by omega)
    rw [show k + (os.length - k) = os.length by omega, List.take_length] at this
    exact this.symm
  intro d
  induction d with
  | zero => intro _; rfl
  | succ d ih =>
    intro hd
    rw [← ih (by omega), ← Nat.add_assoc, lks, lkSt_take vs m h (by omega), lkStep]
    dsimp only
    rw [getD_appL _ (by rw [(lkB hm hv (by omega)).len]; omega)]
    rfl
end Go.Proofs.Ytdleidlmjliapaa
