/- Chapter 7: cmp.Compare, cmp.Or of three numbers. -/
import Derived.Test.YtgnopkemcgbedabDgF
namespace Go.Proofs.Ytgnopkemcgbedab
open Go.RowKit Go.PlainAid Go.Sort
set_option linter.unusedVariables false
set_option linter.unusedSimpArgs false

def cmpI (x y : Int) : Int := if x < y then -1 else if y < x then 1 else 0
theorem cmpI_zero (x y : Int) : cmpI x y = 0 ↔ x = y := by
  unfold cmpI
  split
  · omega
  · split <;> omega
theorem isNaN_any (x : Int) (w : World) : Calls Try.prog 101 #[.int .i64 x] w fun e w' => e = .returned (.bool false) ∧ w = w' := by
  have h : (x != x) = false := by simp
  go_enter Try.func101, Try.ntmps101
  go_wp2
  go_ret
  exact ⟨rfl, rfl⟩
set_option maxHeartbeats 400000 in
theorem cmpInt_any (x y : Int) (w : World) : Calls Try.prog 69 #[.int .i64 x, .int .i64 y] w fun e w' => e = .returned (.int .i64 (cmpI x y)) ∧ w = w' := by
  have C := Lib.hid (fun z W => isNaN_any z W)
  unfold cmpI
  by_cases h1 : x < y
  · rw [if_pos h1]
    go_enter Try.func69, Try.ntmps69
    go_wp2_with fail
    refine (C.out _ _).mono ?_
    rintro e w1 ⟨rfl, rfl⟩
    go_wp2_with fail
    refine (C.out _ _).mono ?_
    rintro e w1 ⟨rfl, rfl⟩
    go_wp2_with fail
    go_ret
    exact ⟨rfl, rfl⟩
  · rw [if_neg h1]
    by_cases h2 : y < x
    · rw [if_pos h2]
      go_enter Try.func69, Try.ntmps69
      go_wp2_with fail
      refine (C.out _ _).mono ?_
      rintro e w1 ⟨rfl, rfl⟩
      go_wp2_with fail
      refine (C.out _ _).mono ?_
      rintro e w1 ⟨rfl, rfl⟩
      go_wp2_with fail
      go_ret
      exact ⟨rfl, rfl⟩
    · rw [if_neg h2]
      go_enter Try.func69, Try.ntmps69
      go_wp2_with fail
      refine (C.out _ _).mono ?_
      rintro e w1 ⟨rfl, rfl⟩
      go_wp2_with fail
      refine (C.out _ _).mono ?_
      rintro e w1 ⟨rfl, rfl⟩
      go_wp2_with fail
      go_ret
      exact ⟨rfl, rfl⟩

/-- Below B nothing turns, and the draws only grow. -/
structure BelowD (B : Nat) (w W : World) : Prop where
  b : Below B w W
  d : w.drawn ≤ W.drawn
theorem BelowD.refl (B : Nat) (w : World) : BelowD B w w := ⟨Below.refl _ _, Nat.le_refl _⟩
theorem BelowD.trans {B : Nat} {w W X : World} (h : BelowD B w W) (k : BelowD B W X) : BelowD B w X := ⟨h.b.trans k.b, Nat.le_trans h.d k.d⟩
theorem BelowD.mono {B C : Nat} {w W : World} (h : BelowD B w W) (hc : C ≤ B) : BelowD C w W := ⟨h.b.mono hc, h.d⟩
theorem BelowD.size {B : Nat} {w W : World} (h : BelowD B w W) : w.heap.size ≤ W.heap.size := h.b.size
theorem BelowD.allocW (w : World) (o : Obj) : BelowD w.heap.size w (w.alloc o) := ⟨(Below.refl _ _).alloc (Nat.le_refl _) o, Nat.le_refl _⟩

/-- The first of three numbers that is not zero, or zero. -/
def or3 (x y z : Int) : Int := if x = 0 then if y = 0 then z else y else x
theorem or3_at {x y z : Int} {k : Nat} (h2 : k < 3) (h1 : (1 ≤ k → x = 0) ∧ (2 ≤ k → y = 0)) (hz : [x, y, z].getD k 0 ≠ 0) : or3 x y z = [x, y, z].getD k 0 := by
  match k, h2 with
  | 0, _ => rw [or3, if_neg (by simpa using hz)]; rfl
  | 1, _ => rw [or3, if_pos (h1.1 (Nat.le_refl _)), if_neg (by simpa using hz)]; rfl
  | 2, _ => rw [or3, if_pos (h1.1 (by omega)), if_pos (h1.2 (Nat.le_refl _))]; rfl
theorem has_new3 (w : World) (x y z : Value) (t : TypeId) : Has (w.alloc (.cells #[x, y, z] t)) (w.heap.size + 1) (some ⟨w.heap.size, 0, none⟩) [x, y, z] := by
  intro k u h
  refine ⟨_, rfl, Nat.lt_succ_self _, ?_⟩
  rw [show (⟨w.heap.size, 0, none⟩ : Addr).add k = ⟨w.heap.size, k, none⟩ from (by unfold Addr.add; split <;> simp_all), sNew]
  simpa using h
end Go.Proofs.Ytgnopkemcgbedab
