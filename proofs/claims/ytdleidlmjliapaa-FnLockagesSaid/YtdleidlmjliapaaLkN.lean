/- Chapter 8: what the functions answer. -/
import Derived.Test.YtdleidlmjliapaaLkM
namespace Go.Proofs.Ytdleidlmjliapaa
set_option linter.unusedVariables false

/-- The order and the minutes are good. -/
noncomputable def gO (vs : List TArrival) (m : Int) (os : List Int) : Bool := oA vs os && decide (1 ≤ m ∧ m ≤ 60)
theorem gO_iff (vs : List TArrival) (m : Int) (os : List Int) : gO vs m os = true ↔ OrdA vs os ∧ 1 ≤ m ∧ m ≤ 60 := by
  unfold gO; rw [Bool.and_eq_true, oA_iff, decide_eq_true_eq]
theorem OrdA.le6 {vs : List TArrival} {os : List Int} (h : OrdA vs os) : os.length ≤ 6 := by rw [h.2.1]; exact h.1.1
theorem OrdA.inn {vs : List TArrival} {os : List Int} (h : OrdA vs os) {p : Nat} (hp : p < os.length) : inA vs.length (os.getD p 0) := (h.2.2 p hp).1
theorem OrdA.good {vs : List TArrival} {os : List Int} (h : OrdA vs os) {p : Nat} (hp : p < os.length) : goodA (atA vs (os.getD p 0)) := by
  have h1 := h.inn hp
  unfold inA at h1
  exact (h.1.2 _ (by omega)).1
theorem good_in {vs : List TArrival} (hg : goodAs vs) {os : List Int} (hr : ∀ p, p < os.length → inA vs.length (os.getD p 0)) : ∀ p, p < os.length → goodA (atA vs (os.getD p 0)) := fun p hp => by
  have h1 := hr p hp
  unfold inA at h1
  exact (hg.2 _ (by omega)).1
/-- The lockages of an order, if it is one. -/
def LkA (vs : List TArrival) (h : Bool) (m : Int) (os : List Int) (L : List Tlockage) (x : Bool) : Prop := (gO vs m os = true → L = lks vs m h os ∧ x = true) ∧ (gO vs m os = false → L = [] ∧ x = false)
theorem lkA_ex (vs : List TArrival) (h : Bool) (m : Int) (os : List Int) : ∃ L x, LkA vs h m os L x := by
  cases e : gO vs m os with
  | true => exact ⟨_, true, fun _ => ⟨rfl, rfl⟩, fun k => by rw [e] at k; cases k⟩
  | false => exact ⟨[], false, fun k => (by rw [e] at k; cases k), fun _ => ⟨rfl, rfl⟩⟩
theorem lks_full {vs : List TArrival} {m : Int} {h : Bool} {os : List Int} (hm : 1 ≤ m ∧ m ≤ 60) (hv : ∀ p, p < os.length → goodA (atA vs (os.getD p 0))) : LkB vs m h os os.length := lkB hm hv (Nat.le_refl _)
theorem lks_len {vs : List TArrival} {m : Int} {h : Bool} {os : List Int} (hm : 1 ≤ m ∧ m ≤ 60) (hv : ∀ p, p < os.length → goodA (atA vs (os.getD p 0))) : (lks vs m h os).length = os.length := by
  have := (lks_full (h := h) hm hv).len
  rw [List.take_length] at this
  exact this
/-- What is known of each lockage. -/
structure LkO (vs : List TArrival) (os : List Int) (L : List Tlockage) (j : Nat) : Prop where
  i : (L.getD j nolockage).x0 = os.getD j 0
  inn : inA vs.length (L.getD j nolockage).x0
  b : 0 ≤ (L.getD j nolockage).x2 ∧ (L.getD j nolockage).x2 ≤ 10719
  w : (L.getD j nolockage).x3 = (L.getD j nolockage).x2 - (atA vs (os.getD j 0)).x2 ∧ 0 ≤ (L.getD j nolockage).x3
  g : goodA (atA vs (L.getD j nolockage).x0)
theorem lks_each {vs : List TArrival} {m : Int} {h : Bool} {os : List Int} (hg : goodAs vs) (hm : 1 ≤ m ∧ m ≤ 60) (h6 : os.length ≤ 6) (hr : ∀ p, p < os.length → inA vs.length (os.getD p 0)) {j : Nat} (hj : j < os.length) : LkO vs os (lks vs m h os) j := by
  have hv := good_in hg hr
  have h1 := (lks_full (h := h) hm hv).each j hj
  rw [List.take_length] at h1
  change (((lks vs m h os).getD j nolockage).x0 = _ ∧ (0 ≤ ((lks vs m h os).getD j nolockage).x2 ∧ _) ∧ ((lks vs m h os).getD j nolockage).x3 = ((lks vs m h os).getD j nolockage).x2 - _ ∧ 0 ≤ ((lks vs m h os).getD j nolockage).x3) at h1
  obtain ⟨h1, h2, h3, h4⟩ := h1
  have h5 : ((lks vs m h os).getD j nolockage).x2 ≤ 9999 + 120 * os.length := h2.2
  exact ⟨h1, by rw [h1]; exact hr j hj, by omega, ⟨h3, h4⟩, by rw [h1]; exact hv j hj⟩
/-- Minutes, delay, turns. -/
def timesL (L : List Tlockage) : List Int := L.map (·.x2)
def wgt (vs : List TArrival) (l : Tlockage) : Int := (atA vs l.x0).x3 * l.x3
def delL (vs : List TArrival) (L : List Tlockage) : Int := (L.map (wgt vs)).sum
def trnL (L : List Tlockage) : Int := (L.map (fun l => if l.x1 = true then (1 : Int) else 0)).sum
theorem takeS_snoc {α : Type} {L : List α} {k : Nat} (d : α) (h : k < L.length) : L.take (k + 1) = L.take k ++ [L.getD k d] := by
  rw [List.take_add_one, List.getD_eq_getElem?_getD, List.getElem?_eq_getElem h]; rfl
theorem delL_snoc {vs : List TArrival} {L : List Tlockage} {k : Nat} (h : k < L.length) : delL vs (L.take (k + 1)) = delL vs (L.take k) + wgt vs (L.getD k nolockage) := by
  unfold delL; rw [takeS_snoc nolockage h, List.map_append, List.sum_append]; simp
theorem trnL_snoc {L : List Tlockage} {k : Nat} (h : k < L.length) : trnL (L.take (k + 1)) = trnL (L.take k) + (if (L.getD k nolockage).x1 = true then (1 : Int) else 0) := by
  unfold trnL; rw [takeS_snoc nolockage h, List.map_append, List.sum_append]; simp
theorem timesL_snoc {L : List Tlockage} {k : Nat} (h : k < L.length) : timesL (L.take (k + 1)) = timesL (L.take k) ++ [(L.getD k nolockage).x2] := by
  unfold timesL; rw [takeS_snoc nolockage h, List.map_append]; rfl
theorem mul_bd {a b : Int} (ha : 1 ≤ a ∧ a ≤ 9) (hb : 0 ≤ b ∧ b ≤ 10719) : 0 ≤ a * b ∧ a * b ≤ 96471 := by
  constructor
  · exact Int.mul_nonneg (by omega) hb.1
  · have : a * b ≤ 9 * b := Int.mul_le_mul_of_nonneg_right ha.2 hb.1
    omega
theorem wgt_bd {vs : List TArrival} {os : List Int} {L : List Tlockage} {j : Nat} (h : LkO vs os L j) (hm : 0 ≤ (atA vs (os.getD j 0)).x2) : 0 ≤ wgt vs (L.getD j nolockage) ∧ wgt vs (L.getD j nolockage) ≤ 96471 :=
  mul_bd h.g.2.2 ⟨h.w.2, by have := h.w.1; have := h.b.2; omega⟩
theorem delL_bd {vs : List TArrival} {L : List Tlockage} (hw : ∀ j, j < L.length → 0 ≤ wgt vs (L.getD j nolockage) ∧ wgt vs (L.getD j nolockage) ≤ 96471) : ∀ k, k ≤ L.length → 0 ≤ delL vs (L.take k) ∧ delL vs (L.take k) ≤ 96471 * k
  | 0, _ => by simp [delL]
  | k + 1, h => by
    have h1 := delL_bd hw k (by omega)
    have h2 := hw k (by omega)
    rw [delL_snoc (by omega)]
    omega
theorem trnL_bd {L : List Tlockage} : ∀ k, k ≤ L.length → 0 ≤ trnL (L.take k) ∧ trnL (L.take k) ≤ k
  | 0, _ => by simp [trnL]
  | k + 1, h => by
    have h1 := trnL_bd (L := L) k (by omega)
    rw [trnL_snoc (by omega)]
    split <;> omega
/-- What the functions answer. -/
def TimesA (vs : List TArrival) (h : Bool) (m : Int) (os : List Int) (T : List Int) (x : Bool) : Prop := ∃ L, LkA vs h m os L x ∧ T = timesL L
def DelayA (vs : List TArrival) (h : Bool) (m : Int) (os : List Int) (z : Int) (x : Bool) : Prop := ∃ L, LkA vs h m os L x ∧ z = delL vs L
def TurnA (vs : List TArrival) (h : Bool) (os : List Int) (z : Int) (x : Bool) : Prop := ∃ L, LkA vs h 1 os L x ∧ z = trnL L
def LastA (vs : List TArrival) (h : Bool) (m : Int) (os : List Int) (z : Int) (x : Bool) : Prop := ∃ L, LkA vs h m os L x ∧ z = if L = [] then 0 else (L.getD (L.length - 1) nolockage).x2 + m
theorem timesA_ex (vs : List TArrival) (h : Bool) (m : Int) (os : List Int) : ∃ T x, TimesA vs h m os T x := by
  obtain ⟨L, x, hL⟩ := lkA_ex vs h m os; exact ⟨_, x, L, hL, rfl⟩
theorem delayA_ex (vs : List TArrival) (h : Bool) (m : Int) (os : List Int) : ∃ z x, DelayA vs h m os z x := by
  obtain ⟨L, x, hL⟩ := lkA_ex vs h m os; exact ⟨_, x, L, hL, rfl⟩
theorem turnA_ex (vs : List TArrival) (h : Bool) (os : List Int) : ∃ z x, TurnA vs h os z x := by
  obtain ⟨L, x, hL⟩ := lkA_ex vs h 1 os; exact ⟨_, x, L, hL, rfl⟩
theorem lastA_ex (vs : List TArrival) (h : Bool) (m : Int) (os : List Int) : ∃ z x, LastA vs h m os z x := by
  obtain ⟨L, x, hL⟩ := lkA_ex vs h m os; exact ⟨_, x, L, hL, rfl⟩
theorem lkA_len {vs : List TArrival} {h : Bool} {m : Int} {os : List Int} {L : List Tlockage} {x : Bool} (hA : LkA vs h m os L x) : L.length ≤ 6 := by
  cases e : gO vs m os with
  | true =>
    have h1 := (gO_iff vs m os).1 e
    rw [(hA.1 e).1, lks_len h1.2 (fun p hp => h1.1.good hp)]
    exact h1.1.le6
  | false => rw [(hA.2 e).1]; simp
theorem TimesA.len {vs : List TArrival} {h : Bool} {m : Int} {os : List Int} {T : List Int} {x : Bool} (hA : TimesA vs h m os T x) : T.length ≤ 6 := by
  obtain ⟨L, hL, rfl⟩ := hA
  unfold timesL; rw [List.length_map]; exact lkA_len hL
/-- The longest wait of the first k. -/
def MoreW (a b : Tlockage) : Prop := b.x3 < a.x3 ∨ b.x3 = a.x3 ∧ a.x0 < b.x0
instance (a b : Tlockage) : Decidable (MoreW a b) := by unfold MoreW; infer_instance
def longL (L : List Tlockage) : Nat → Tlockage
  | 0 => L.getD 0 nolockage
  | k + 1 => if MoreW (L.getD (k + 1) nolockage) (longL L k) then L.getD (k + 1) nolockage else longL L k
def LongA (vs : List TArrival) (h : Bool) (m : Int) (os : List Int) (i w : Int) (x : Bool) : Prop := ∃ L y, LkA vs h m os L y ∧ ((y = true ∧ L ≠ []) → i = (longL L (L.length - 1)).x0 ∧ w = (longL L (L.length - 1)).x3 ∧ x = true) ∧ (¬ (y = true ∧ L ≠ []) → i = 0 ∧ w = 0 ∧ x = false)
theorem longA_ex (vs : List TArrival) (h : Bool) (m : Int) (os : List Int) : ∃ i w x, LongA vs h m os i w x := by
  obtain ⟨L, y, hL⟩ := lkA_ex vs h m os
  by_cases g : y = true ∧ L ≠ []
  · exact ⟨_, _, true, L, y, hL, fun _ => ⟨rfl, rfl, rfl⟩, fun k => absurd g k⟩
  · exact ⟨0, 0, false, L, y, hL, fun k => absurd k g, fun _ => ⟨rfl, rfl, rfl⟩⟩
/-- It is one of them, and none waits longer, nor as long with a smaller index. -/
theorem longL_is (L : List Tlockage) : ∀ k, k < L.length → (∃ j, j ≤ k ∧ longL L k = L.getD j nolockage) ∧ ∀ j, j ≤ k → ¬ MoreW (L.getD j nolockage) (longL L k)
  | 0, _ => ⟨⟨0, Nat.le_refl _, rfl⟩, fun j hj => by
      obtain rfl : j = 0 := by omega
      show ¬ MoreW (L.getD 0 nolockage) (L.getD 0 nolockage)
      unfold MoreW; omega⟩
  | k + 1, h => by
    obtain ⟨⟨j0, hj0, e⟩, hall⟩ := longL_is L k (by omega)
    rw [longL]
    split
    · next hm =>
      refine ⟨⟨k + 1, Nat.le_refl _, rfl⟩, fun j hj => ?_⟩
      rcases Nat.lt_or_eq_of_le hj with h1 | rfl
      · have := hall j (by omega)
        unfold MoreW at *; omega
      · unfold MoreW; omega
    · next hm =>
      refine ⟨⟨j0, by omega, e⟩, fun j hj => ?_⟩
      rcases Nat.lt_or_eq_of_le hj with h1 | rfl
      · exact hall j (by omega)
      · exact hm
end Go.Proofs.Ytdleidlmjliapaa
