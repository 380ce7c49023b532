/- Texts that are joined: VesV. -/
import Derived.Test.YtliebicnejbheabGreatDoorMg08
/- Chapter 3: a row of vessels in memory, in one word; its copy, its equality, its size, whether it is a fleet, in these words. -/
namespace Go.Proofs.YtliebicnejbheabGreatDoor
open Go.RowKit Go.PlainAid

/-- A row of vessels that lies below block B. -/
structure IsVs (w : World) (B : Nat) (A : Option Addr) (n : Nat) (vs : List Ves) : Prop where
  len : vs.length = n
  low : B ≤ w.heap.size
  has : Has w B A (flatV vs)
  nm : ∀ v ∈ vs, v.name.size ≤ maxLen
theorem IsVs.below {w w' : World} {B C : Nat} {A : Option Addr} {n : Nat} {vs : List Ves} (h : IsVs w B A n vs) (hb : Below C w w') (hC : B ≤ C) : IsVs w' B A n vs :=
  ⟨h.len, Nat.le_trans h.low hb.size, h.has.below (hb.mono hC), h.nm⟩
theorem IsVs.all {w : World} {B : Nat} {A : Option Addr} {n : Nat} {vs : List Ves} (h : IsVs w B A n vs) : IsVs w w.heap.size A n vs :=
  ⟨h.len, Nat.le_refl _, h.has.more h.low, h.nm⟩
theorem ownV_has {w : World} {base : Nat} {e : TypeId} {g n c : Nat} {xs : List Value} (h : w.ownsRow base e 6 (.slice (some ⟨g, 0, none⟩) n c) n xs) : Has w w.heap.size (some ⟨g, 0, none⟩) xs := by
  intro k u hu
  have hk := (List.getElem?_eq_some_iff.1 hu).1
  refine ⟨_, rfl, (h.lt g rfl).2, ?_⟩
  have := h.cellAt k (by have := h.1; omega)
  rw [← hu, ← this]
  congr 1
  unfold Addr.add
  split
  · next h0 => subst h0; rfl
  · simp
theorem own_vs {w : World} {base : Nat} {g n c : Nat} {vs : List Ves} (h : w.ownsRow base 25 6 (.slice (some ⟨g, 0, none⟩) n c) n (flatV vs)) (hn : ∀ v ∈ vs, v.name.size ≤ maxLen) : IsVs w w.heap.size (some ⟨g, 0, none⟩) n vs :=
  ⟨by have := h.1; rw [flatV_len] at this; omega, Nat.le_refl _, ownV_has h, hn⟩

theorem l3Fleet_vs {w : World} {B : Nat} {A : Option Addr} {n : Nat} {vs : List Ves} (c : Nat) (h : IsVs w B A n vs) (hm : n ≤ maxLen) :
    Calls Tryz.prog 42 #[.slice A n c] w fun e w' => e = .returned (.bool (gF vs)) ∧ Below w.heap.size w w' :=
  l3Fleet_any A n c B vs w h.len hm h.nm h.low h.has
theorem isFleet_vs {w : World} {B : Nat} {A : Option Addr} {n : Nat} {vs : List Ves} (c : Nat) (h : IsVs w B A n vs) (hm : n ≤ maxLen) (hc : n ≤ c) :
    Calls Tryz.prog 18 #[.slice A n c] w fun e w' => e = .returned (.bool (gF vs)) ∧ Below w.heap.size w w' :=
  isFleet_any A n c B vs w h.len hm hc h.nm h.low h.has
end Go.Proofs.YtliebicnejbheabGreatDoor
