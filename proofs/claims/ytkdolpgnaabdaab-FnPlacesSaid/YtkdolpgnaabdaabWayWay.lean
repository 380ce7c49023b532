/- Chapter 2: a waterway in memory, in one word; its copy, its equality, its size, whether it is valid, in these words. -/
import Derived.Test.YtkdolpgnaabdaabWayIn
import Derived.Test.YtkdolpgnaabdaabWayImpl
import Derived.Test.YtkdolpgnaabdaabCur
namespace Go.Proofs.Ytkdolpgnaabdaab
open Go.RowKit Go.PlainAid

/-- A waterway's reaches and rises lie below block B. -/
structure IsWay (w : World) (B : Nat) (A : Option Addr) (n : Nat) (A2 : Option Addr) (n2 : Nat) (rs : List (Int × Int × Int)) (zs : List Int) : Prop where
  len : rs.length = n
  len2 : zs.length = n2
  low : B ≤ w.heap.size
  has : Has w B A (flat rs)
  has2 : Has w B A2 (zs.map (.int .i64))
theorem IsWay.below {w w' : World} {B C : Nat} {A A2 : Option Addr} {n n2 : Nat} {rs : List (Int × Int × Int)} {zs : List Int} (h : IsWay w B A n A2 n2 rs zs) (hb : Below C w w') (hC : B ≤ C) : IsWay w' B A n A2 n2 rs zs :=
  ⟨h.len, h.len2, Nat.le_trans h.low hb.size, h.has.below (hb.mono hC), h.has2.below (hb.mono hC)⟩
theorem IsWay.all {w : World} {B : Nat} {A A2 : Option Addr} {n n2 : Nat} {rs : List (Int × Int × Int)} {zs : List Int} (h : IsWay w B A n A2 n2 rs zs) : IsWay w w.heap.size A n A2 n2 rs zs :=
  ⟨h.len, h.len2, Nat.le_refl _, h.has.more h.low, h.has2.more h.low⟩

/-- The words of a waterway's two slices. -/
abbrev wv (A : Option Addr) (n c : Nat) (A2 : Option Addr) (n2 c2 : Nat) : Value := .agg #[.slice A n c, .slice A2 n2 c2]

theorem good_two {w : World} {B : Nat} {A A2 : Option Addr} {n n2 : Nat} {rs : List (Int × Int × Int)} {zs : List Int} (c c2 : Nat) (h : IsWay w B A n A2 n2 rs zs) (hm : n ≤ maxLen) (b : Bool) (hyes : goodW rs zs → b = true) (hno : ¬ goodW rs zs → b = false) :
    Calls Try.prog 80 #[.agg #[.slice A n c, .slice A2 n2 c2]] w (fun e w' => e = .returned (.bool b) ∧ Below w.heap.size w w') ∧
    Calls Try.prog 84 #[.agg #[.slice A n c, .slice A2 n2 c2]] w (fun e w' => e = .returned (.bool b) ∧ Below w.heap.size w w') :=
  ⟨l2Good_any A A2 n c n2 c2 B rs zs w b h.len h.len2 hm h.low h.has h.has2 hyes hno, implGood_any A A2 n c n2 c2 B rs zs w b h.len h.len2 hm h.low h.has h.has2 hyes hno⟩

/-- The call hands back a waterway in memory of its own. -/
def GivesWay (w : World) (n n2 : Nat) (rs : List (Int × Int × Int)) (zs : List Int) (e : Ending) (w' : World) : Prop :=
  ∃ g g2, e = .returned (.agg #[.slice (some ⟨g, 0, none⟩) n n, .slice (some ⟨g2, 0, none⟩) n2 n2]) ∧ g ≠ g2 ∧
      w'.ownsRow w.heap.size 71 3 (.slice (some ⟨g, 0, none⟩) n n) n (flat rs) ∧ w'.ownsRow w.heap.size 3 1 (.slice (some ⟨g2, 0, none⟩) n2 n2) n2 (zs.map (.int .i64)) ∧ Below w.heap.size w w'

theorem own_has {w : World} {base : Nat} {e : TypeId} {size : Nat} {g n c : Nat} {xs : List Value} (h : w.ownsRow base e size (.slice (some ⟨g, 0, none⟩) n c) n xs) (hl : xs.length = n * size) : Has w w.heap.size (some ⟨g, 0, none⟩) xs := by
  intro k u hu
  have hk := (List.getElem?_eq_some_iff.1 hu).1
  refine ⟨_, rfl, (h.lt g rfl).2, ?_⟩
  have := h.cellAt k (by omega)
  rw [← hu, ← this]
  congr 1
  unfold Addr.add
  split
  · next h0 => subst h0; rfl
  · simp

end Go.Proofs.Ytkdolpgnaabdaab
