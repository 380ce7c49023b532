/- The given tests' cursor over bytes: each of its methods as a contract. -/
import Derived.Test.YtkdolpgnaabdaabDoorMem
import Derived.Maps.AppendAt
namespace Go.Proofs.YtkdolpgnaabdaabDoor
open Go.RowKit Go.PlainAid

/-- A slice of integers that came in: its elements are zs. -/
def IsInts (k : IntKind) (w : World) (a : Option Addr) (len : Nat) (zs : List Int) : Prop :=
  zs.length = len ∧ len ≤ maxLen ∧ (∀ z ∈ zs, (Lit.int k z).wf = true) ∧ Has w w.heap.size a (zs.map (.int k))
theorem isInts_nil (k : IntKind) (w : World) : IsInts k w none 0 [] := ⟨rfl, Nat.zero_le _, by simp, Has.nil _ _ _⟩
theorem isInts_some {k : IntKind} {w : World} {a : Addr} {len cap : Nat} {zs : List Int} (hl : len ≤ cap) (hm : cap ≤ maxLen) (hz : zs.length = cap)
    (hcell : ∀ i, i < zs.length → w.cell? (a.add i) = some (.int k (zs.getD i 0))) (hws : ∀ z ∈ zs, (Lit.int k z).wf = true) : IsInts k w (some a) len (zs.take len) := by
  refine ⟨by rw [List.length_take]; omega, by omega, fun s hs => hws s (List.mem_of_mem_take hs), ?_⟩
  intro i u hu
  have hk : i < (zs.take len).length := by
    have := (List.getElem?_eq_some_iff.1 hu).1
    simpa using this
  rw [List.length_take] at hk
  have hc := hcell i (by omega)
  have hb := World.block_lt_of_cell? w (a.add i) hc
  rw [addBlock] at hb
  refine ⟨a, rfl, hb, hc.trans ?_⟩
  rw [List.getElem?_map, List.getElem?_take, if_pos (by omega), List.getElem?_eq_getElem (by omega)] at hu
  rw [← hu, List.getD_eq_getElem?_getD, List.getElem?_eq_getElem (by omega)]
  rfl

end Go.Proofs.YtkdolpgnaabdaabDoor
