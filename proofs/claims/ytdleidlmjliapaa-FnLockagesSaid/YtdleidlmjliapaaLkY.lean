/- Chapter 8: the best order, the mathematics of both searches. -/
import Derived.Test.YtdleidlmjliapaaLkN
import Derived.Test.YtdleidlmjliapaaLkX
namespace Go.Proofs.Ytdleidlmjliapaa
set_option linter.unusedVariables false

abbrev MX : Int := 9223372036854775807
/-- The delay of an order. -/
def dly (vs : List TArrival) (m : Int) (h : Bool) (O : List Int) : Int := delL vs (lks vs m h O)
theorem dly_bd {vs : List TArrival} {m : Int} (h : Bool) {O : List Int} (hm : 1 ≤ m ∧ m ≤ 60) (ho : OrdA vs O) : 0 ≤ dly vs m h O ∧ dly vs m h O ≤ 600000 := by
  have hv : ∀ p, p < O.length → goodA (atA vs (O.getD p 0)) := fun p hp => ho.good hp
  have hl := lks_len (h := h) hm hv
  have he := fun j (hj : j < O.length) => lks_each (h := h) ho.1 hm ho.le6 (fun p hp => ho.inn hp) (j := j) hj
  have hb := delL_bd (vs := vs) (L := lks vs m h O) (fun j hj => wgt_bd (he j (by omega)) (by
    have := (he j (by omega)).g.2.1.1
    rwa [(he j (by omega)).i] at this)) (lks vs m h O).length (Nat.le_refl _)
  rw [List.take_length] at hb
  have := ho.le6
  unfold dly
  omega
/-- What the search holds. -/
def stB (D : List Int → Int) (E : List (List Int)) : List Int × Int := if E = [] then ([], -1) else fm D ([], MX) E
theorem stB_nil (D : List Int → Int) : stB D [] = ([], -1) := by unfold stB; rw [if_pos rfl]
theorem stB_ne {D : List Int → Int} {E : List (List Int)} (h : E ≠ []) : stB D E = fm D ([], MX) E := by unfold stB; rw [if_neg h]
theorem stB_step {D : List Int → Int} {E F : List (List Int)} (hF : F ≠ []) (hD : ∀ O ∈ E, 0 ≤ D O ∧ D O ≤ 600000) :
    stB D (E ++ F) = if (stB D E).2 < 0 ∨ (fm D ([], MX) F).2 < (stB D E).2 then fm D ([], MX) F else stB D E := by
  by_cases hE : E = []
  · subst hE
    rw [stB_nil, if_pos (.inl (by decide)), List.nil_append, stB_ne hF]
  · have h1 := fm_hit D (ini := ([], MX)) hE (fun O hO => by have := (hD O hO).2; show D O < MX; unfold MX; omega)
    have h2 := (hD _ h1.1).1
    rw [← h1.2] at h2
    rw [stB_ne (by simp [hE]), stB_ne hE, fm_append, fm_two D F _ ([], MX) (fm_le D E ([], MX))]
    by_cases h3 : (fm D ([], MX) F).2 < (fm D ([], MX) E).2
    · rw [if_pos h3, if_pos (.inr h3)]
    · rw [if_neg h3, if_neg (by omega)]
/-- The orders behind the first k ways. -/
noncomputable def extK (vs : List TArrival) (f : Nat) (B : List Int) (k : Nat) : List (List Int) := (List.range k).flatMap fun i : Nat => if nxA vs B (i : Int) = true then exts vs f (B ++ [(i : Int)]) else []
theorem extK_zero (vs : List TArrival) (f : Nat) (B : List Int) : extK vs f B 0 = [] := rfl
theorem extK_end (vs : List TArrival) (f : Nat) (B : List Int) : extK vs f B vs.length = exts vs (f + 1) B := rfl
theorem extK_no {vs : List TArrival} {f : Nat} {B : List Int} {k : Nat} (h : nxA vs B (k : Int) = false) : extK vs f B (k + 1) = extK vs f B k := by
  unfold extK; rw [List.range_succ, List.flatMap_append]; simp [h]
theorem extK_yes {vs : List TArrival} {f : Nat} {B : List Int} {k : Nat} (h : nxA vs B (k : Int) = true) : extK vs f B (k + 1) = extK vs f B k ++ exts vs f (B ++ [(k : Int)]) := by
  unfold extK; rw [List.range_succ, List.flatMap_append]; simp [h]
theorem extK_sub {vs : List TArrival} {f : Nat} {B : List Int} {k : Nat} (hk : k ≤ vs.length) : ∀ O ∈ extK vs f B k, O ∈ exts vs (f + 1) B := fun O hO => by
  rw [← extK_end]
  unfold extK at *
  rw [List.mem_flatMap] at *
  obtain ⟨i, hi, h⟩ := hO
  exact ⟨i, List.mem_range.2 (by have := List.mem_range.1 hi; omega), h⟩
/-- What has begun can be carried on. -/
def Goes (vs : List TArrival) (B : List Int) (f : Nat) : Prop := (∃ p q, QQ vs B p q ∧ p.length + q.length = f) ∧ PreO vs B ∧ B.length + f = vs.length
theorem Goes.next {vs : List TArrival} {B : List Int} {f k : Nat} (h : Goes vs B (f + 1)) (hk : k < vs.length) (hn : nextA vs B (k : Int)) : Goes vs (B ++ [(k : Int)]) f := by
  obtain ⟨⟨p, q, hq, hl⟩, hp, hlen⟩ := h
  refine ⟨?_, preO_snoc hp (by unfold inA; omega) hn, by simp; omega⟩
  rcases hq.only hk hn with ⟨t, rfl⟩ | ⟨t, rfl⟩
  · exact ⟨t, q, hq.step, by simp at hl; omega⟩
  · exact ⟨p, t, hq.swap.step.swap, by simp at hl; omega⟩
theorem Goes.ne {vs : List TArrival} {B : List Int} {f : Nat} (h : Goes vs B f) : exts vs f B ≠ [] := by
  obtain ⟨⟨p, q, hq, hl⟩, -, -⟩ := h
  exact exts_ne hq hl
theorem Goes.ord {vs : List TArrival} {B : List Int} {f : Nat} (hg : goodAs vs) (h : Goes vs B f) : ∀ O ∈ exts vs f B, OrdA vs O := exts_ord hg f B h.2.1 h.2.2
theorem goes_start {vs : List TArrival} (hg : goodAs vs) {os : List Int} (h : FirstA vs vs.length os) : Goes vs [] vs.length :=
  ⟨⟨_, _, qq_start hg h, by rw [qu_len, h.len]⟩, fun p hp => absurd hp (by simp), by simp⟩
/-- The best order and its delay. -/
noncomputable def bestO (vs : List TArrival) (m : Int) (h : Bool) : List Int × Int := fm (dly vs m h) ([], MX) (exts vs vs.length [])
/-- What BestLockages answers. -/
def BestA (vs : List TArrival) (h : Bool) (m : Int) (L : List Int) (z : Int) (x : Bool) : Prop :=
  (gAs vs = true → decide (1 ≤ m ∧ m ≤ 60) = true → L = (bestO vs m h).1 ∧ z = (bestO vs m h).2 ∧ x = true) ∧ (gAs vs = false ∨ decide (1 ≤ m ∧ m ≤ 60) = false → L = [] ∧ z = 0 ∧ x = false)
theorem bestA_ex (vs : List TArrival) (h : Bool) (m : Int) : ∃ L z x, BestA vs h m L z x := by
  cases e1 : gAs vs with
  | false => exact ⟨[], 0, false, fun k => (by rw [e1] at k; cases k), fun _ => ⟨rfl, rfl, rfl⟩⟩
  | true =>
    cases e2 : decide (1 ≤ m ∧ m ≤ 60) with
    | false => exact ⟨[], 0, false, fun _ k => (by rw [e2] at k; cases k), fun _ => ⟨rfl, rfl, rfl⟩⟩
    | true => exact ⟨_, _, true, fun _ _ => ⟨rfl, rfl, rfl⟩, fun k => by rcases k with k | k; rw [e1] at k; cases k; rw [e2] at k; cases k⟩
theorem bestO_ord {vs : List TArrival} {m : Int} (h : Bool) (hg : goodAs vs) (hm : 1 ≤ m ∧ m ≤ 60) {os : List Int} (hf : FirstA vs vs.length os) : OrdA vs (bestO vs m h).1 ∧ (bestO vs m h).2 = dly vs m h (bestO vs m h).1 := by
  have h1 := goes_start hg hf
  have h2 := fm_hit (dly vs m h) (ini := ([], MX)) h1.ne (fun O hO => by have := (dly_bd h hm (h1.ord hg O hO)).2; show dly vs m h O < MX; unfold MX; omega)
  exact ⟨h1.ord hg _ h2.1, h2.2⟩
end Go.Proofs.Ytdleidlmjliapaa
