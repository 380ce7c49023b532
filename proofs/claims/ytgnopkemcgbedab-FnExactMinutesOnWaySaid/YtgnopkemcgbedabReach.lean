/- Chapter 2: one reach: its copy, its equality, whether it is valid. -/
import Derived.Test.YtgnopkemcgbedabRng
import Derived.Lib.QuietBelow
namespace Go.Proofs.Ytgnopkemcgbedab
open Go.RowKit Go.PlainAid

/-- A reach as a value. -/
def rv (l d s : Int) : Value := .agg #[.int .i64 l, .int .i64 d, .int .i64 s]

set_option maxHeartbeats 400000 in
theorem toReach_any (l d s : Int) (w : World) :
    Calls Try.prog 111 #[.agg #[.int .i64 l, .int .i64 d, .int .i64 s]] w fun e w' => e = .returned (.agg #[.int .i64 l, .int .i64 d, .int .i64 s]) ∧ Below w.heap.size w w' := by
  go_enter Try.func111, Try.ntmps111
  go_wp2
  refine bodyPost_ret (results_cell_row rfl _ _ (w.heap.size + 1) 83 #[.int .i64 l, .int .i64 d, .int .i64 s] (0, 0) _ rfl ((heap_alloc_old _ _ (by simp)).trans (heap_alloc2_new w _ _)) Try.underlying83 rfl (by kernel_rfl)) rfl ?_
  exact ⟨rfl, (((Below.refl _ _).alloc (Nat.le_refl _) _).alloc (by simp) _).alloc (by simp; omega) _⟩

set_option maxHeartbeats 400000 in
theorem eqReach_same (l d s : Int) (w : World) :
    Calls Try.prog 112 #[.agg #[.int .i64 l, .int .i64 d, .int .i64 s], .agg #[.int .i64 l, .int .i64 d, .int .i64 s]] w fun e w' => e = .returned (.bool true) ∧ Below w.heap.size w w' := by
  have h1 : (l != l) = false := by simp
  have h2 : (d != d) = false := by simp
  have h3 : (s != s) = false := by simp
  go_enter Try.func112, Try.ntmps112
  go_wp2
  go_ret
  exact ⟨rfl, ((Below.refl _ _).alloc (Nat.le_refl _) _).alloc (by simp) _⟩
/-- What makes a reach valid. -/
def goodR (l d s : Int) : Prop := (1 ≤ l ∧ l ≤ 100) ∧ (100 ≤ d ∧ d ≤ 900) ∧ (1 ≤ s ∧ s ≤ 20)
instance (l d s : Int) : Decidable (goodR l d s) := by unfold goodR; infer_instance

set_option maxHeartbeats 800000 in
theorem l2Single_any (l d s : Int) (w : World) :
    Calls Try.prog 113 #[.agg #[.int .i64 l, .int .i64 d, .int .i64 s]] w fun e w' => e = .returned (.bool (decide (goodR l d s))) ∧ Below w.heap.size w w' := by
  have C1 := Lib.hid (fun W => l1In_any l 1 100 W)
  have C2 := Lib.hid (fun W => l1In_any d 100 900 W)
  have C3 := Lib.hid (fun W => l1In_any s 1 20 W)
  have hv : Hid (decide (goodR l d s) = (decide (1 ≤ l ∧ l ≤ 100) && (decide (100 ≤ d ∧ d ≤ 900) && decide (1 ≤ s ∧ s ≤ 20)))) := Lib.hid (by unfold goodR; by_cases h1 : 1 ≤ l ∧ l ≤ 100 <;> by_cases h2 : 100 ≤ d ∧ d ≤ 900 <;> by_cases h3 : 1 ≤ s ∧ s ≤ 20 <;> simp [h1, h2, h3])
  generalize decide (goodR l d s) = B at hv ⊢
  generalize decide (1 ≤ l ∧ l ≤ 100) = b1 at C1 hv
  generalize decide (100 ≤ d ∧ d ≤ 900) = b2 at C2 hv
  generalize decide (1 ≤ s ∧ s ≤ 20) = b3 at C3 hv
  cases b1 with
  | false =>
    obtain rfl : B = false := hv.out
    clear hv C2 C3
    go_enter Try.func113, Try.ntmps113
    go_wp2_with fail
    refine (C1.out _).mono ?_
    rintro e w1 ⟨rfl, rfl⟩
    go_wp2_with fail
    go_ret
    exact ⟨rfl, (Below.refl _ _).alloc (Nat.le_refl _) _⟩
  | true =>
    cases b2 with
    | false =>
      obtain rfl : B = false := hv.out
      clear hv C3
      go_enter Try.func113, Try.ntmps113
      go_wp2_with fail
      refine (C1.out _).mono ?_
      rintro e w1 ⟨rfl, rfl⟩
      go_wp2_with fail
      refine (C2.out _).mono ?_
      rintro e w1 ⟨rfl, rfl⟩
      go_wp2_with fail
      go_ret
      exact ⟨rfl, (Below.refl _ _).alloc (Nat.le_refl _) _⟩
    | true =>
      obtain rfl : B = b3 := hv.out
      clear hv
      go_enter Try.func113, Try.ntmps113
      go_wp2_with fail
      refine (C1.out _).mono ?_
      rintro e w1 ⟨rfl, rfl⟩
      go_wp2_with fail
      refine (C2.out _).mono ?_
      rintro e w1 ⟨rfl, rfl⟩
      go_wp2_with fail
      refine (C3.out _).mono ?_
      rintro e w1 ⟨rfl, rfl⟩
      go_wp2_with fail
      go_ret
      exact ⟨rfl, (Below.refl _ _).alloc (Nat.le_refl _) _⟩
end Go.Proofs.Ytgnopkemcgbedab
