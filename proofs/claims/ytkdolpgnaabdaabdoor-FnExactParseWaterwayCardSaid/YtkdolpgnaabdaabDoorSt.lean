/- The box of a waterway in the state of a law. -/
import Derived.Test.YtkdolpgnaabdaabDoorWayWay
import Derived.Test.YtkdolpgnaabdaabDoorSt0
namespace Go.Proofs.YtkdolpgnaabdaabDoor
open Go.RowKit Go.PlainAid

theorem St.box {w W : World} {cs : List (Nat × Nat × Value)} {rows : List RowOf} (h : St w cs rows W) (u v : Value) (t : TypeId) : St w ((W.heap.size, 0, u) :: (W.heap.size, 1, v) :: cs) rows (W.alloc (.cells #[u, v] t)) := by
  have k := h.quiet ((Below.refl _ W).alloc (Nat.le_refl _) (.cells #[u, v] t))
  refine k.cells (ds := [(W.heap.size, 0, u), (W.heap.size, 1, v)]) fun p hp => ?_
  simp only [List.mem_cons, List.not_mem_nil, or_false] at hp
  rcases hp with rfl | rfl
  · exact ⟨h.low.size, by rw [cellNew]; rfl⟩
  · exact ⟨h.low.size, by rw [cellNew]; rfl⟩
end Go.Proofs.YtkdolpgnaabdaabDoor
