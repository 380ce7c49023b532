/- Chapter 2: the length of a waterway; the sizes of a row of reaches. -/
import Derived.Test.YtgnopkemcgbedabWayGood
namespace Go.Proofs.Ytgnopkemcgbedab
open Go.RowKit Go.PlainAid

/-- The length of the first k reaches. -/
def tot (rs : List (Int × Int × Int)) (k : Nat) : Int := ((rs.take k).map (·.1)).sum
theorem tot_step (rs : List (Int × Int × Int)) (k : Nat) (h : k < rs.length) : tot rs (k + 1) = tot rs k + rs[k].1 := by
  unfold tot
  rw [List.take_succ_eq_append_getElem h, List.map_append, List.sum_append]
  simp
theorem tot_bd (rs : List (Int × Int × Int)) (hb : ∀ r ∈ rs, 0 ≤ r.1 ∧ r.1 ≤ 1000) : ∀ k, k ≤ rs.length → 0 ≤ tot rs k ∧ tot rs k ≤ 1000 * k
  | 0, _ => by simp [tot]
  | k + 1, h => by
    have ih := tot_bd rs hb k (by omega)
    have := hb _ (List.getElem_mem (show k < rs.length by omega))
    rw [tot_step rs k (by omega)]
    omega

set_option maxHeartbeats 800000 in
theorem l2Total_any (A A2 : Option Addr) (n c n2 c2 B : Nat) (rs : List (Int × Int × Int)) (w : World) (hn : rs.length = n) (hm : n ≤ 1000) (hb : ∀ r ∈ rs, 0 ≤ r.1 ∧ r.1 ≤ 1000)
    (hB : B ≤ w.heap.size) (h1 : Has w B A (flat rs)) :
    Calls Try.prog 93 #[.agg #[.slice A n c, .slice A2 n2 c2]] w fun e w' => e = .returned (.int .i64 (tot rs n)) ∧ Below w.heap.size w w' := by
  have HL := Lib.hid hn
  have HB := Lib.hid hb
  have H1 := Lib.hid h1
  clear hn hb h1
  go_enter Try.func93, Try.ntmps93
  go_wp2
  go_loop [3, 4] (fun q i => ∃ k : Nat, k ≤ n ∧ i = .int .i64 k ∧ q = .int .i64 (tot rs k)) (fun _ i => n - (intOf i).toNat)
  case atStart => exact ⟨0, Nat.zero_le _, rfl, by simp [tot]⟩
  case round =>
    obtain ⟨k, hk, rfl, rfl⟩ := hrel
    by_cases hlt : k < n
    · have hkl : k < rs.length := by rw [HL.out]; exact hlt
      obtain ⟨a1, rfl, _, e0, -, -⟩ := (H1.out.alloc hB (.cells #[.slice A n c, .slice A2 n2 c2] 27)).reachAt hkl
      obtain ⟨t0, t1⟩ := tot_bd rs HB.out k (by omega)
      obtain ⟨l0, l1⟩ := HB.out _ (List.getElem_mem hkl)
      have HS := Lib.hid (tot_step rs k hkl)
      generalize (rs[k]'hkl).1 = l at e0 l0 l1 HS
      generalize tot rs k = t at t0 t1 HS
      have hk0 : (0 : Int) ≤ (k : Int) := by omega
      have hk1 : (k : Int) < (n : Int) := by omega
      clear H1
      go_wp2
      go_round
      case rel => exact ⟨k + 1, by omega, by go_num, by rw [HS.out]⟩
      case measure => simp [intOf]; omega
    · obtain rfl : k = n := by omega
      clear H1
      go_wp2
      go_ret
      exact ⟨rfl, (Below.refl _ _).alloc (Nat.le_refl _) _⟩

set_option maxHeartbeats 400000 in
theorem szR_ok (A : Option Addr) (n c : Nat) (left : Int) (w : World) (hm : n ≤ maxLen) (hl : left ≤ 1048576) (hfit : (n : Int) ≤ left) :
    Calls Try.prog 85 #[.slice A n c, .int .i64 left] w fun e w' => e = .returned (.int .i64 (left - n)) ∧ w = w' := by
  unfold maxLen at hm
  go_enter Try.func85, Try.ntmps85
  go_wp2
  go_ret
  exact ⟨rfl, rfl⟩
set_option maxHeartbeats 400000 in
theorem szR_no (A : Option Addr) (n c : Nat) (left : Int) (w : World) (hm : n ≤ maxLen) (h0 : 0 ≤ left) (hl : left ≤ 1048576) (hfit : left < (n : Int)) :
    Calls Try.prog 85 #[.slice A n c, .int .i64 left] w fun e w' => e = .returned (.int .i64 (-1)) ∧ w = w' := by
  unfold maxLen at hm
  go_enter Try.func85, Try.ntmps85
  go_wp2
  go_ret
  exact ⟨rfl, rfl⟩
end Go.Proofs.Ytgnopkemcgbedab
