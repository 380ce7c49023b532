/- Chapter 2: one reach: its copy, its equality, whether it is valid. -/
import Derived.Test.YtkdolpgnaabdaabRng
import Derived.Lib.QuietBelow
namespace Go.Proofs.Ytkdolpgnaabdaab
open Go.RowKit Go.PlainAid

/-- A reach as a value. -/
def rv (l d s : Int) : Value := .agg #[.int .i64 l, .int .i64 d, .int .i64 s]

/-- What makes a reach valid. -/
def goodR (l d s : Int) : Prop := (1 ≤ l ∧ l ≤ 100) ∧ (100 ≤ d ∧ d ≤ 900) ∧ (1 ≤ s ∧ s ≤ 20)
instance (l d s : Int) : Decidable (goodR l d s) := by unfold goodR; infer_instance

set_option maxHeartbeats 800000 in
theorem l2Single_any (l d s : Int) (w : World) :
    Calls Try.prog 93 #[.agg #[.int .i64 l, .int .i64 d, .int .i64 s]] w fun e w' => e = .returned (.bool (decide (goodR l d s))) ∧ Below w.heap.size w w' := by
  have C1 := Lib.hid (fun W => l1In_any l 1 100 W)
  have C2 := Lib.hid (fun W => l1In_any d 100 900 W)
  have C3 := Lib.hid (fun W => l1In_any s 1 20 W)
  have hv : Hid (decide (goodR l d s) = (decide (1 ≤ l ∧ l ≤ 100) && (decide (100 ≤ d ∧ d ≤ 900) && decide (1 ≤ s ∧ s ≤ 20)))) := Lib.hid (by unfold goodR; by_cases h1 : 1 ≤ l ∧ l ≤ 100 <;> by_cases h2 : 100 ≤ d ∧ d ≤ 900 <;> by_cases h3 : 1 ≤ s ∧ s ≤ 20 <;> simp [h1, h2, h3])
  generalize decide (goodR l d s) = B at hv ⊢
  generalize decide (1 ≤ l ∧ l ≤ 100) = b1 at C1 hv
  generalize decide (100 ≤ d ∧ d ≤ 900) = b2 at C2 hv
  generalize decide (1 ≤ s ∧ s ≤ 20) = b3 at C3 hv
  cases b1 with
  | false =>
    obtain rfl : B = false := hv.out
    clear hv C2 C3
    go_enter Try.func93, Try.ntmps93
    go_wp2_with fail
    refine (C1.out _).mono ?_
    rintro e w1 ⟨rfl, rfl⟩
    go_wp2_with fail
    go_ret
    exact ⟨rfl, (Below.refl _ _).alloc (Nat.le_refl _) _⟩
  | true =>
    cases b2 with
    | false =>
      obtain rfl : B = false := hv.out
      clear hv C3
      go_enter Try.func93, Try.ntmps93
      go_wp2_with fail
      refine (C1.out _).mono ?_
      rintro e w1 ⟨rfl, rfl⟩
      go_wp2_with fail
      refine (C2.out _).mono ?_
      rintro e w1 ⟨rfl, rfl⟩
      go_wp2_with fail
      go_ret
      exact ⟨rfl, (Below.refl _ _).alloc (Nat.le_refl _) _⟩
    | true =>
      obtain rfl : B = b3 := hv.out
      clear hv
      go_enter Try.func93, Try.ntmps93
      go_wp2_with fail
      refine (C1.out _).mono ?_
      rintro e w1 ⟨rfl, rfl⟩
      go_wp2_with fail
      refine (C2.out _).mono ?_
      rintro e w1 ⟨rfl, rfl⟩
      go_wp2_with fail
      refine (C3.out _).mono ?_
      rintro e w1 ⟨rfl, rfl⟩
      go_wp2_with fail
      go_ret
      exact ⟨rfl, (Below.refl _ _).alloc (Nat.le_refl _) _⟩
end Go.Proofs.Ytkdolpgnaabdaab
