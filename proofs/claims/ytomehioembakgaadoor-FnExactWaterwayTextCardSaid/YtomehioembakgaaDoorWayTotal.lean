/- Chapter 2: the length of a waterway; the sizes of a row of reaches. -/
import Derived.Test.YtomehioembakgaaDoorWayGood
namespace Go.Proofs.YtomehioembakgaaDoor
open Go.RowKit Go.PlainAid

/-- The length of the first k reaches. -/
def tot (rs : List (Int × Int × Int)) (k : Nat) : Int := ((rs.take k).map (·.1)).sum
theorem tot_step (rs : List (Int × Int × Int)) (k : Nat) (h : k < rs.length) : tot rs (k + 1) = tot rs k + rs[k].1 := by
  unfold tot
  rw [List.take_succ_eq_append_getElem h, List.map_append, List.sum_append]
  simp
theorem tot_bd (rs : List (Int × Int × Int)) (hb : ∀ r ∈ rs, 0 ≤ r.1 ∧ r.1 ≤ 1000) : ∀ k, k ≤ rs.length → 0 ≤ tot rs k ∧ tot rs k ≤ 1000 * k
  | 0, _ => by simp [tot]
  | k + 1, h => by
    have ih := tot_bd rs hb k (by omega)
    have := hb _ (List.getElem_mem (show k < rs.length by omega))
    rw [tot_step rs k (by omega)]
    omega

set_option maxHeartbeats 400000 in
theorem szR_ok (A : Option Addr) (n c : Nat) (left : Int) (w : World) (hm : n ≤ maxLen) (hl : left ≤ 1048576) (hfit : (n : Int) ≤ left) :
    Calls Tryd.prog 14 #[.slice A n c, .int .i64 left] w fun e w' => e = .returned (.int .i64 (left - n)) ∧ w = w' := by
  unfold maxLen at hm
  go_enter Tryd.func14, Tryd.ntmps14
  go_wp2
  go_ret
  exact ⟨rfl, rfl⟩
set_option maxHeartbeats 400000 in
theorem szR_no (A : Option Addr) (n c : Nat) (left : Int) (w : World) (hm : n ≤ maxLen) (h0 : 0 ≤ left) (hl : left ≤ 1048576) (hfit : left < (n : Int)) :
    Calls Tryd.prog 14 #[.slice A n c, .int .i64 left] w fun e w' => e = .returned (.int .i64 (-1)) ∧ w = w' := by
  unfold maxLen at hm
  go_enter Tryd.func14, Tryd.ntmps14
  go_wp2
  go_ret
  exact ⟨rfl, rfl⟩
end Go.Proofs.YtomehioembakgaaDoor
