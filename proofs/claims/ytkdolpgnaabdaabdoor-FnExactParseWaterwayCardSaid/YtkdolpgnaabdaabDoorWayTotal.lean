/- Chapter 2: the length of a waterway; the sizes of a row of reaches. -/
import Derived.Test.YtkdolpgnaabdaabDoorWayGood
namespace Go.Proofs.YtkdolpgnaabdaabDoor
open Go.RowKit Go.PlainAid

/-- The length of the first k reaches. -/
def tot (rs : List (Int × Int × Int)) (k : Nat) : Int := ((rs.take k).map (·.1)).sum
theorem tot_step (rs : List (Int × Int × Int)) (k : Nat) (h : k < rs.length) : tot rs (k + 1) = tot rs k + rs[k].1 := by
  unfold tot
  rw [List.take_succ_eq_append_getElem h, List.map_append, List.sum_append]
  simp
theorem tot_bd (rs : List (Int × Int × Int)) (hb : ∀ r ∈ rs, 0 ≤ r.1 ∧ r.1 ≤ 1000) : ∀ k, k ≤ rs.length → 0 ≤ tot rs k ∧ tot rs k ≤ 1000 * k
  | 0, _ => by simp [tot]
  | k + 1, h => by
    have ih := tot_bd rs hb k (by omega)
    have := hb _ (List.getElem_mem (show k < rs.length by omega))
    rw [tot_step rs k (by omega)]
    omega

end Go.Proofs.YtkdolpgnaabdaabDoor
