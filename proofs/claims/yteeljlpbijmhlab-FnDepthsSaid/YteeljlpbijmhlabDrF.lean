/- What FnDepths asks of lighter vessels and of depths, in one word each; the mathematics of it. -/
import Derived.Test.YteeljlpbijmhlabDrE
import Derived.Test.YteeljlpbijmhlabVesLi2
import Derived.Test.YteeljlpbijmhlabVesLi3
import Derived.Test.YteeljlpbijmhlabVesPas
import Derived.Test.YteeljlpbijmhlabVesCel
namespace Go.Proofs.Yteeljlpbijmhlab
open Go.RowKit Go.PlainAid Go.Sort
set_option linter.unusedVariables false
set_option linter.unusedSimpArgs false

/-- Integers in memory. -/
structure IsZ (w : World) (B : Nat) (A : Option Addr) (n : Nat) (zs : List Int) : Prop where
  len : zs.length = n
  has : Has w B A (zs.map (.int .i64))
  low : B ≤ w.heap.size
theorem IsZ.below {w w' : World} {B C n : Nat} {A : Option Addr} {zs : List Int} (h : IsZ w B A n zs) (hb : Below C w w') (hC : B ≤ C) : IsZ w' B A n zs :=
  ⟨h.len, h.has.below (hb.mono hC), Nat.le_trans h.low hb.size⟩
theorem ownZ_has {w : World} {base : Nat} {e : TypeId} {g n c : Nat} {xs : List Value} (h : w.ownsRow base e 1 (.slice (some ⟨g, 0, none⟩) n c) n xs) : Has w w.heap.size (some ⟨g, 0, none⟩) xs := by
  intro k u hu
  have hk := (List.getElem?_eq_some_iff.1 hu).1
  refine ⟨_, rfl, (h.lt g rfl).2, ?_⟩
  have := h.cellAt k (by have := h.1; omega)
  rw [← hu, ← this]
  congr 1
  unfold Addr.add
  split
  · next h0 => subst h0; rfl
  · simp
/-- An answer of integers. -/
def AnsZ (w : World) (n : Nat) (L : List Int) (x : Bool) (e : Ending) (w' : World) : Prop :=
  ∃ g c, e = .returned (.tuple #[.slice (some ⟨g, 0, none⟩) n c, .bool x]) ∧ IsZ w' w'.heap.size (some ⟨g, 0, none⟩) n L ∧ Below w.heap.size w w'
theorem ansZ_of {w : World} {n : Nat} {L : List Int} {x : Bool} {e : Ending} {w' : World} (hn : L.length = n) (h : GivesInts w L x e w') : AnsZ w n L x e w' := by
  obtain ⟨g, c, h1, h2, h3, h4⟩ := h
  subst hn
  exact ⟨g, c, h1, ⟨rfl, ownZ_has h3, Nat.le_refl _⟩, h4⟩
/-- An answer of vessels. -/
def AnsV (w : World) (n : Nat) (L : List Ves) (x : Bool) (e : Ending) (w' : World) : Prop :=
  ∃ g c, e = .returned (.tuple #[.slice (some ⟨g, 0, none⟩) n c, .bool x]) ∧ n ≤ c ∧ IsVs w' w'.heap.size (some ⟨g, 0, none⟩) n L ∧ Below w.heap.size w w'
theorem ansV_of {w : World} {n : Nat} {L : List Ves} {x : Bool} {e : Ending} {w' : World} (hn : L.length = n) (hs : ∀ v ∈ L, v.name.size ≤ maxLen) (h : GivesVs w L x e w') : AnsV w n L x e w' := by
  obtain ⟨g, c, h1, h2, h3, h4⟩ := h
  subst hn
  refine ⟨g, c, h1, ?_, own_vs h3 hs, h4⟩
  rcases h3.2 with ⟨e, -⟩ | ⟨g', cap, cur, e, -, -, h5, -⟩
  · cases e
  · injection e with e1 e2 e3
    omega
/-- What PassDepth answers. -/
def PasA (vs : List Ves) (d q : Int) (L : List Int) (x : Bool) : Prop :=
  (gF vs = true → (0 ≤ d ∧ d ≤ 1000) → (0 ≤ q ∧ q ≤ 100) → L = pasL vs d q vs.length ∧ x = true) ∧ (¬ (gF vs = true ∧ (0 ≤ d ∧ d ≤ 1000) ∧ (0 ≤ q ∧ q ≤ 100)) → L = [] ∧ x = false)
theorem pasA_ex (vs : List Ves) (d q : Int) : ∃ L x, PasA vs d q L x ∧ L.length ≤ vs.length := by
  by_cases h : gF vs = true ∧ (0 ≤ d ∧ d ≤ 1000) ∧ (0 ≤ q ∧ q ≤ 100)
  · exact ⟨_, true, ⟨fun _ _ _ => ⟨rfl, rfl⟩, fun g => absurd h g⟩, pasL_len _ _ _ _⟩
  · exact ⟨[], false, ⟨fun a b c => absurd ⟨a, b, c⟩ h, fun _ => ⟨rfl, rfl⟩⟩, by simp⟩
theorem pasI_any {w : World} {B : Nat} {A : Option Addr} {n : Nat} {vs : List Ves} (c : Nat) (h : IsVs w B A n vs) (hm : n ≤ maxLen) (hc : n ≤ c) (d q : Int) (L : List Int) (x : Bool) (Ln : Nat) (hLn : L.length = Ln) (hA : PasA vs d q L x) :
    Calls Try.prog 12 #[.slice A n c, .int .i64 d, .int .i64 q] w (AnsZ w Ln L x) := by
  obtain rfl := h.len
  exact (implPas_any c h hm hc d q L x hA.1 hA.2).mono fun _ _ k => ansZ_of hLn k
theorem pasS_any {w : World} {B : Nat} {A : Option Addr} {n : Nat} {vs : List Ves} (c : Nat) (h : IsVs w B A n vs) (hm : n ≤ maxLen) (d q : Int) (L : List Int) (x : Bool) (Ln : Nat) (hLn : L.length = Ln) (hA : PasA vs d q L x) :
    Calls Try.prog 13 #[.slice A n c, .int .i64 d, .int .i64 q] w (AnsZ w Ln L x) := by
  obtain rfl := h.len
  exact (specPas_any c h hm d q L x hA.1 hA.2).mono fun _ _ k => ansZ_of hLn k
theorem ligI_any {w : World} {B : Nat} {A : Option Addr} {n : Nat} {vs : List Ves} (c : Nat) (h : IsVs w B A n vs) (hm : n ≤ maxLen) (hc : n ≤ c) (t z : Int) (hz : z ≤ 9223372036854775807) (L : List Ves) (x : Bool) (hs : ∀ v ∈ L, v.name.size ≤ maxLen) (Ln : Nat) (hLn : L.length = Ln) (hl : Light vs n t z L x) :
    Calls Try.prog 8 #[.slice A n c, .int .i64 t, .int .i64 z] w (AnsV w Ln L x) :=
  (implLig_any c h hm hc t z hz L x hl).mono fun _ _ k => ansV_of hLn hs k
theorem ligS_any {w : World} {B : Nat} {A : Option Addr} {n : Nat} {vs : List Ves} (c : Nat) (h : IsVs w B A n vs) (hm : n ≤ maxLen) (t z : Int) (L : List Ves) (x : Bool) (hs : ∀ v ∈ L, v.name.size ≤ maxLen) (Ln : Nat) (hLn : L.length = Ln) (hl : Light vs n t z L x) :
    Calls Try.prog 9 #[.slice A n c, .int .i64 t, .int .i64 z] w (AnsV w Ln L x) :=
  (specLig_any c h hm t z L x hl).mono fun _ _ k => ansV_of hLn hs k
theorem light_yes {vs : List Ves} {n : Nat} (hn : vs.length = n) {t z : Int} {L : List Ves} (h : Light vs n t z L true) : ∃ k, k < n ∧ gF vs = true ∧ 1 ≤ z ∧ L = lt vs k z ∧ gF (lt vs k z) = true := by
  by_cases g : ∀ k, k < n → gF vs = true → (vs.getD k noVes).id = t → 1 ≤ z → gF (lt vs k z) = true → False
  · have := (h.no g).2
    cases this
  · simp only [Classical.not_forall] at g
    obtain ⟨k, h1, h2, h3, h4, h5, -⟩ := g
    exact ⟨k, h1, h2, h4, (h.yes k h1 h2 h3 h4 h5).1, h5⟩
theorem lt_get (vs : List Ves) (k : Nat) (z : Int) (hz : 1 ≤ z) (hk : k < vs.length) (j : Nat) : ((lt vs k z).getD j noVes).id = (vs.getD j noVes).id ∧ ((lt vs k z).getD j noVes).dr ≤ (vs.getD j noVes).dr := by
  unfold lt
  simp only [List.getD_eq_getElem?_getD, List.getElem?_set]
  by_cases h : k = j
  · subst h
    rw [if_pos rfl, if_pos hk]
    simp
    omega
  · rw [if_neg h]
    exact ⟨rfl, Int.le_refl _⟩
theorem pas_mono (vs : List Ves) (k : Nat) (z : Int) (hz : 1 ≤ z) (hk : k < vs.length) (d q : Int) : ∀ j, (pasL vs d q j).length ≤ (pasL (lt vs k z) d q j).length ∧ ∀ x ∈ pasL vs d q j, x ∈ pasL (lt vs k z) d q j
  | 0 => ⟨Nat.le_refl _, fun x hx => hx⟩
  | j + 1 => by
    obtain ⟨h1, h2⟩ := pas_mono vs k z hz hk d q j
    obtain ⟨e1, e2⟩ := lt_get vs k z hz hk j
    simp only [pasL, e1]
    by_cases g : (vs.getD j noVes).dr + q ≤ d
    · rw [if_pos g, if_pos (by omega)]
      refine ⟨by simp; exact h1, fun x hx => ?_⟩
      rcases List.mem_append.1 hx with hx | hx
      · exact List.mem_append_left _ (h2 x hx)
      · exact List.mem_append_right _ hx
    · rw [if_neg g]
      by_cases g' : ((lt vs k z).getD j noVes).dr + q ≤ d
      · rw [if_pos g']
        exact ⟨by simp; omega, fun x hx => List.mem_append_left _ (h2 x hx)⟩
      · rw [if_neg g']
        exact ⟨h1, h2⟩
/-- A lighter vessel passes where it passed before. -/
theorem pas_after {vs : List Ves} {n : Nat} (hn : vs.length = n) {t z : Int} {L : List Ves} (h : Light vs n t z L true) {P Q : List Int} {x y : Bool} (hP : PasA vs 250 20 P x) (hQ : PasA L 250 20 Q y) : x = true ∧ y = true ∧ P.length ≤ Q.length ∧ ∀ a ∈ P, a ∈ Q := by
  obtain ⟨k, h1, h2, h3, rfl, h5⟩ := light_yes hn h
  obtain ⟨rfl, rfl⟩ := hP.1 h2 ⟨by omega, by omega⟩ ⟨by omega, by omega⟩
  obtain ⟨rfl, rfl⟩ := hQ.1 h5 ⟨by omega, by omega⟩ ⟨by omega, by omega⟩
  rw [lt_len]
  have := pas_mono vs k z h3 (by omega) 250 20 vs.length
  exact ⟨rfl, rfl, this.1, this.2⟩
end Go.Proofs.Yteeljlpbijmhlab
