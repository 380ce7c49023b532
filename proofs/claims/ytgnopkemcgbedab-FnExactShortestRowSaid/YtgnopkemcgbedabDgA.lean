/- Chapter 7: valid lists of dangerous goods: the model and the program. -/
import Derived.Test.YtgnopkemcgbedabDgM
import Derived.Test.YtgnopkemcgbedabRng
namespace Go.Proofs.Ytgnopkemcgbedab
open Go.RowKit Go.PlainAid Go.Sort
set_option linter.unusedVariables false
set_option linter.unusedSimpArgs false

theorem below1 (w : World) (a : Obj) : Below w.heap.size w (w.alloc a) := (Below.refl _ _).alloc (Nat.le_refl _) _
theorem below2 (w : World) (a b : Obj) : Below w.heap.size w ((w.alloc a).alloc b) := (below1 w a).alloc (by simp) _
theorem below3 (w : World) (a b c : Obj) : Below w.heap.size w (((w.alloc a).alloc b).alloc c) := (below2 w a b).alloc (by simp; omega) _
theorem ret_bool {a b : Bool} (h : a = b) : Ending.returned (.bool a) = .returned (.bool b) := by rw [h]
theorem toBelow {P : Program} {f : FuncId} {args : Array Value} {w : World} {E : Ending} (h : Calls P f args w fun e w' => e = E ∧ w = w') : Calls P f args w fun e w' => e = E ∧ Below w.heap.size w w' :=
  h.mono fun _ _ ⟨a, b⟩ => ⟨a, b ▸ Below.refl _ _⟩
theorem ite_mx7 (x y : Int) : (if x < y then y else x) = max x y := by split <;> omega
theorem gap_mx {x y : Int} (hx : 0 ≤ x ∧ x ≤ 3) (hy : 0 ≤ y ∧ y ≤ 3) : gapZ x y = if max x y = 3 then 5 else x + y := by
  unfold gapZ
  by_cases h : x = 3 ∨ y = 3
  · rw [if_pos h, if_pos (by omega)]
  · rw [if_neg h, if_neg (by omega)]

set_option maxHeartbeats 800000 in
theorem isCargo_any (d l b : Int) (w : World) :
    Calls Try.prog 99 #[.agg #[.int .i64 d, .int .i64 l, .int .i64 b]] w fun e w' => e = .returned (.bool (decide (goodC ⟨d, l, b⟩))) ∧ Below w.heap.size w w' := by
  have C0 := Lib.hid (fun W => inRange_any d 1 99 W)
  have C1 := Lib.hid (fun W => inRange_any l 1 8 W)
  have C2 := Lib.hid (fun W => inRange_any b 0 3 W)
  have hv := Lib.hid (show decide (goodC ⟨d, l, b⟩) = (decide (1 ≤ d ∧ d ≤ 99) && (decide (1 ≤ l ∧ l ≤ 8) && decide (0 ≤ b ∧ b ≤ 3))) by rw [Bool.eq_iff_iff]; simp only [Bool.and_eq_true, decide_eq_true_eq]; exact Iff.rfl)
  generalize decide (goodC ⟨d, l, b⟩) = B at hv ⊢
  generalize decide (1 ≤ d ∧ d ≤ 99) = b0 at C0 hv
  generalize decide (1 ≤ l ∧ l ≤ 8) = b1 at C1 hv
  generalize decide (0 ≤ b ∧ b ≤ 3) = b2 at C2 hv
  go_enter Try.func99, Try.ntmps99
  go_wp2_with fail
  refine (C0.out _).mono ?_
  rintro e w1 ⟨rfl, rfl⟩
  cases b0 with
  | false =>
    obtain rfl : B = false := by have := hv.out; simpa using this
    go_wp2_with fail
    go_ret
    exact ⟨rfl, below1 _ _⟩
  | true =>
    go_wp2_with fail
    refine (C1.out _).mono ?_
    rintro e w1 ⟨rfl, rfl⟩
    cases b1 with
    | false =>
      obtain rfl : B = false := by have := hv.out; simpa using this
      go_wp2_with fail
      go_ret
      exact ⟨rfl, below1 _ _⟩
    | true =>
      obtain rfl : B = b2 := by have := hv.out; simpa using this
      go_wp2_with fail
      refine (C2.out _).mono ?_
      rintro e w1 ⟨rfl, rfl⟩
      go_wp2_with fail
      go_ret
      exact ⟨rfl, below1 _ _⟩

set_option maxHeartbeats 800000 in
theorem same_any (i l k d : Int) (xb : Nat) (w : World) (hc : w.cell? ⟨xb, 0, none⟩ = some (.int .i64 d)) :
    Calls Try.prog 98 #[.agg #[.int .i64 i, .int .i64 l, .int .i64 k], .pointer (some ⟨xb, 0, none⟩)] w fun e w' => e = .returned (.bool (i == d)) ∧ Below w.heap.size w w' := by
  have hl := World.block_lt_of_cell? w _ hc
  have hne : xb ≠ w.heap.size := by simp at hl; omega
  have hc' := fun (o : Obj) => (World.cell?_alloc_lt w o _ (World.block_lt_of_cell? w _ hc)).trans hc
  clear hc hl
  go_enter Try.func98, Try.ntmps98
  go_wp2
  go_ret
  exact ⟨rfl, below1 _ _⟩

/-- It shows more than one cone. -/
def MuchC (v : TCargo) : Prop := 1 < v.x2
instance (v : TCargo) : Decidable (MuchC v) := by unfold MuchC; infer_instance
set_option maxHeartbeats 1000000 in
theorem same_idx (A : Option Addr) (n c B : Nat) (vs : List TCargo) (d : Int) (xb : Nat) (w : World) (hn : n ≤ vs.length) (hm : n ≤ 1048576) (hB : B ≤ w.heap.size) (h : Has w B A (flatCargo vs)) (hc : w.cell? ⟨xb, 0, none⟩ = some (.int .i64 d)) :
    Calls Try.prog 116 #[.slice A n c, .func (.func 98) #[] #[.pointer (some ⟨xb, 0, none⟩)]] w fun e w' => ∃ z : Int, e = .returned (.int .i64 z) ∧ (0 ≤ z ↔ ∃ j, j < n ∧  (vs.getD j noCargo).x0 = d) ∧ Below w.heap.size w w' := by
  have CN := Lib.hid (fun (W : World) (hW : Below w.heap.size w W) => (hW.cell (World.block_lt_of_cell? w _ hc)).trans hc)
  have HL := Lib.hid hn
  have H := Lib.hid h
  clear hn h hc
  go_enter Try.func116, Try.ntmps116
  go_wp2_with fail
  go_loopw [8] (fun i wr => ∃ k : Nat, k ≤ n ∧ i = .int .i64 k ∧ Hid (∀ j, j < k → ¬  (vs.getD j noCargo).x0 = d) ∧ Below w.heap.size w wr) (fun i _ => n - (intOf i).toNat)
  case atStart => exact ⟨0, Nat.zero_le _, rfl, Lib.hid (by simp), Below.refl _ _⟩
  case round =>
    obtain ⟨k, hk, rfl, hall, hb⟩ := hrel
    by_cases hlt : k < n
    · have hkl : k < vs.length := Nat.lt_of_lt_of_le hlt HL.out
      obtain ⟨a1, rfl, hab, HV⟩ := (H.out.below (hb.mono hB)).Cargo hkl
      have HE : Hid ( (vs.getD k noCargo).x0 = d → ∃ j, j < n ∧  (vs.getD j noCargo).x0 = d) := Lib.hid (fun h => ⟨k, hlt, h⟩)
      have HA : Hid (¬  (vs.getD k noCargo).x0 = d → ∀ j, j < k + 1 → ¬  (vs.getD j noCargo).x0 = d) := Lib.hid (fun h j hj => by
        rcases Nat.lt_succ_iff_lt_or_eq.1 hj with h1 | h1
        · exact hall.out j h1
        · exact h1 ▸ h)
      generalize vs.getD k noCargo = V at HV HE HA
      obtain ⟨i, l, q⟩ := V
      obtain ⟨e0, e1, e2⟩ := HV
      have hE : Hid ((i = d) → ∃ j, j < n ∧  (vs.getD j noCargo).x0 = d) := Lib.hid HE.out
      have hA : Hid (¬ (i = d) → ∀ j, j < k + 1 → ¬  (vs.getD j noCargo).x0 = d) := Lib.hid HA.out
      dsimp only at e0 e1 e2
      have HB := Lib.hid hb
      have hk0 : (0 : Int) ≤ (k : Int) := by omega
      have hk1 : (k : Int) < (n : Int) := by omega
      have C := Lib.hid (fun W (hW : Below w.heap.size w W) => same_any i l q d xb W (CN.out W hW))
      clear HE HA hall hb H CN
      go_wp2_with fail
      refine (C.out _ HB.out).mono ?_
      rintro e w2 ⟨rfl, hb2⟩
      have HB2 := Lib.hid (HB.out.trans (hb2.mono HB.out.size))
      clear hb2 e0 e1 e2 C
      by_cases hst : (i = d)
      · have HR := Lib.hid (hE.out hst)
        have hb1 : (i == d) = true := by simpa [MuchC] using hst
        clear hE hA hst
        go_wp2_with fail
        go_ret
        exact ⟨_, rfl, ⟨fun _ => HR.out, fun _ => by omega⟩, HB2.out⟩
      · have HR := Lib.hid (hA.out hst)
        have hb1 : (i == d) = false := by simpa [MuchC] using hst
        clear hE hA hst
        go_wp2_with fail
        refine ⟨⟨k + 1, by omega, by go_num, HR, HB2.out⟩, by simp [intOf]; omega⟩
    · obtain rfl : k = n := by omega
      clear H CN
      go_wp2
      go_ret
      exact ⟨_, rfl, ⟨fun h => absurd h (by omega), fun ⟨j, hj, h⟩ => absurd h (hall.out j hj)⟩, hb⟩
set_option maxHeartbeats 1000000 in
theorem same_con (A : Option Addr) (n c B : Nat) (vs : List TCargo) (d : Int) (xb : Nat) (w : World) (hn : n ≤ vs.length) (hm : n ≤ 1048576) (hB : B ≤ w.heap.size) (h : Has w B A (flatCargo vs)) (hc : w.cell? ⟨xb, 0, none⟩ = some (.int .i64 d)) (R : Bool) (hR : R = true ↔ ∃ j, j < n ∧  (vs.getD j noCargo).x0 = d) :
    Calls Try.prog 100 #[.slice A n c, .func (.func 98) #[] #[.pointer (some ⟨xb, 0, none⟩)]] w fun e w' => e = .returned (.bool R) ∧ Below w.heap.size w w' := by
  have C := Lib.hid (same_idx A n c B vs d xb w hn hm hB h hc)
  have HR := Lib.hid hR
  clear hn hm hB h hR hc
  go_enter Try.func100, Try.ntmps100
  go_wp2_with fail
  refine C.out.mono ?_
  rintro e w1 ⟨z, rfl, hz, hb⟩
  have hzR : R = decide (z ≥ 0) := by rw [Bool.eq_iff_iff, HR.out, ← hz, decide_eq_true_iff]
  clear hz HR C
  go_wp2_with fail
  go_ret
  exact ⟨ret_bool hzR.symm, hb⟩
end Go.Proofs.Ytgnopkemcgbedab
