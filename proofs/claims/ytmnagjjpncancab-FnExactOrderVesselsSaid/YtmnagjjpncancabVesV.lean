/- Chapter 3: a row of vessels in memory, in one word; its copy, its equality, its size, whether it is a fleet, in these words. -/
import Derived.Test.YtmnagjjpncancabFleetJ
import Derived.Test.YtmnagjjpncancabVesTo
namespace Go.Proofs.Ytmnagjjpncancab
open Go.RowKit Go.PlainAid

/-- A row of vessels that lies below block B. -/
structure IsVs (w : World) (B : Nat) (A : Option Addr) (n : Nat) (vs : List Ves) : Prop where
  len : vs.length = n
  low : B ≤ w.heap.size
  has : Has w B A (flatV vs)
  nm : ∀ v ∈ vs, v.name.size ≤ maxLen
theorem IsVs.below {w w' : World} {B C : Nat} {A : Option Addr} {n : Nat} {vs : List Ves} (h : IsVs w B A n vs) (hb : Below C w w') (hC : B ≤ C) : IsVs w' B A n vs :=
  ⟨h.len, Nat.le_trans h.low hb.size, h.has.below (hb.mono hC), h.nm⟩
theorem IsVs.all {w : World} {B : Nat} {A : Option Addr} {n : Nat} {vs : List Ves} (h : IsVs w B A n vs) : IsVs w w.heap.size A n vs :=
  ⟨h.len, Nat.le_refl _, h.has.more h.low, h.nm⟩
theorem ownV_has {w : World} {base : Nat} {e : TypeId} {g n c : Nat} {xs : List Value} (h : w.ownsRow base e 6 (.slice (some ⟨g, 0, none⟩) n c) n xs) : Has w w.heap.size (some ⟨g, 0, none⟩) xs := by
  intro k u hu
  have hk := (List.getElem?_eq_some_iff.1 hu).1
  refine ⟨_, rfl, (h.lt g rfl).2, ?_⟩
  have := h.cellAt k (by have := h.1; omega)
  rw [← hu, ← this]
  congr 1
  unfold Addr.add
  split
  · next h0 => subst h0; rfl
  · simp
theorem own_vs {w : World} {base : Nat} {g n c : Nat} {vs : List Ves} (h : w.ownsRow base 76 6 (.slice (some ⟨g, 0, none⟩) n c) n (flatV vs)) (hn : ∀ v ∈ vs, v.name.size ≤ maxLen) : IsVs w w.heap.size (some ⟨g, 0, none⟩) n vs :=
  ⟨by have := h.1; rw [flatV_len] at this; omega, Nat.le_refl _, ownV_has h, hn⟩

theorem toVS_vs {w : World} {B : Nat} {A : Option Addr} {n : Nat} {vs : List Ves} (c : Nat) (h : IsVs w B A n vs) (hm : n ≤ 1048576) :
    Calls Try.prog 9 #[.slice A n c] w fun e w' => ∃ g, e = .returned (.slice (some ⟨g, 0, none⟩) n n) ∧
      w'.ownsRow w.heap.size 76 6 (.slice (some ⟨g, 0, none⟩) n n) n (flatV vs) ∧ IsVs w' w'.heap.size (some ⟨g, 0, none⟩) n vs ∧ Below w.heap.size w w' := by
  refine (toVS_any A n c B vs w h.len hm h.low h.has).mono ?_
  rintro e w' ⟨rfl, ho, hb⟩
  exact ⟨_, rfl, ho, own_vs ho h.nm, hb⟩
theorem eqVS_vs {w : World} {B B' : Nat} {A D : Option Addr} {n : Nat} {vs : List Ves} (c d : Nat) (h : IsVs w B A n vs) (h' : IsVs w B' D n vs) (hm : n ≤ maxLen) :
    Calls Try.prog 12 #[.slice A n c, .slice D n d] w fun e w' => e = .returned (.bool true) ∧ Below w.heap.size w w' :=
  eqVS_same A D n c d B B' vs w h.len hm h.low h'.low h.has h'.has
theorem l3Fleet_vs {w : World} {B : Nat} {A : Option Addr} {n : Nat} {vs : List Ves} (c : Nat) (h : IsVs w B A n vs) (hm : n ≤ maxLen) :
    Calls Try.prog 62 #[.slice A n c] w fun e w' => e = .returned (.bool (gF vs)) ∧ Below w.heap.size w w' :=
  l3Fleet_any A n c B vs w h.len hm h.nm h.low h.has
theorem isFleet_vs {w : World} {B : Nat} {A : Option Addr} {n : Nat} {vs : List Ves} (c : Nat) (h : IsVs w B A n vs) (hm : n ≤ maxLen) (hc : n ≤ c) :
    Calls Try.prog 66 #[.slice A n c] w fun e w' => e = .returned (.bool (gF vs)) ∧ Below w.heap.size w w' :=
  isFleet_any A n c B vs w h.len hm hc h.nm h.low h.has
/-- The size asked of the first argument: either it is too great, or what is left is told. -/
theorem szVS_vs {A : Option Addr} {n c : Nat} {vs : List Ves} (w : World) (h : IsVs w w.heap.size A n vs) (hm : n ≤ maxLen) (left : Int) (h0 : 0 ≤ left) (hl : left ≤ 1048576) :
    ∃ v : Int, -1 ≤ v ∧ v ≤ left ∧ (0 ≤ v → (n : Int) + (nsz vs n : Int) ≤ left) ∧ ∀ W, Below w.heap.size w W →
      Calls Try.prog 7 #[.slice A n c, .int .i64 left] W fun e w' => e = .returned (.int .i64 v) ∧ Below W.heap.size W w' := by
  by_cases hf : (n : Int) + (nsz vs n : Int) ≤ left
  · exact ⟨left - n - nsz vs n, by omega, by omega, fun _ => hf, fun W hb => szVS_any A n c w.heap.size vs left _ W h.len hm h.nm hb.size (h.has.below hb) h0 hl (fun _ => rfl) (fun g => absurd hf g)⟩
  · exact ⟨-1, by omega, by omega, fun g => absurd g (by omega), fun W hb => szVS_any A n c w.heap.size vs left _ W h.len hm h.nm hb.size (h.has.below hb) h0 hl (fun g => absurd g hf) (fun _ => rfl)⟩
end Go.Proofs.Ytmnagjjpncancab
