/- Chapter 5: locks that are safe: the program. -/
import Derived.Test.YtmnagjjpncancaaLoA
import Derived.Deep.QuietTactic
import Derived.Deep.RegionWith
namespace Go.Proofs.Ytmnagjjpncancaa
open Go.RowKit Go.PlainAid Go.Sort
set_option linter.unusedVariables false
set_option linter.unusedSimpArgs false

set_option maxHeartbeats 400000 in
theorem safeS_any (l u v : Int) (a b c d : Bool) (w : World) :
    Calls Try.prog 16 #[.agg #[.int .i64 l, .int .i64 u, .int .i64 v, .bool a, .bool b, .bool c, .bool d]] w fun e w' => e = .returned (.bool (goodL ⟨l, u, v, a, b, c, d⟩)) ∧ Below w.heap.size w w' := by
  have C := Lib.hid (fun W => l5Good_any l u v a b c d W)
  generalize goodL ⟨l, u, v, a, b, c, d⟩ = R at C ⊢
  go_enter Try.func16, Try.ntmps16
  go_wp2_with fail
  refine (C.out _).mono ?_
  rintro e w1 ⟨rfl, hb⟩
  go_wp2_with fail
  go_ret
  exact ⟨rfl, (below1 w (.cells #[.int .i64 l, .int .i64 u, .int .i64 v, .bool a, .bool b, .bool c, .bool d] 23)).trans (hb.mono (by simp))⟩

set_option maxHeartbeats 800000 in
theorem hasLevels_any (l u v : Int) (a b c d : Bool) (w : World) :
    Calls Try.prog 44 #[.agg #[.int .i64 l, .int .i64 u, .int .i64 v, .bool a, .bool b, .bool c, .bool d]] w fun e w' => e = .returned (.bool (levL ⟨l, u, v, a, b, c, d⟩)) ∧ Below w.heap.size w w' := by
  have C1 := Lib.hid (fun W => inRange_any l 0 u W)
  have C2 := Lib.hid (fun W => inRange_any v l u W)
  have hv := Lib.hid (show levL ⟨l, u, v, a, b, c, d⟩ = (decide (0 ≤ l ∧ l ≤ u) && (decide (u ≤ 2000) && decide (l ≤ v ∧ v ≤ u))) by
    rw [Bool.eq_iff_iff]; simp only [levL, Bool.and_eq_true, decide_eq_true_eq]; omega)
  generalize levL ⟨l, u, v, a, b, c, d⟩ = R at hv ⊢
  generalize decide (0 ≤ l ∧ l ≤ u) = b1 at C1 hv
  generalize decide (l ≤ v ∧ v ≤ u) = b2 at C2 hv
  go_enter Try.func44, Try.ntmps44
  go_wp2_with fail
  refine (C1.out _).mono ?_
  rintro e w1 ⟨rfl, rfl⟩
  cases b1 with
  | false =>
    obtain rfl : R = false := by have := hv.out; simpa using this
    go_wp2_with fail
    go_ret
    exact ⟨rfl, below1 _ _⟩
  | true =>
    by_cases h2 : u ≤ 2000
    · obtain rfl : R = b2 := by have := hv.out; simpa [h2] using this
      go_wp2_with fail
      refine (C2.out _).mono ?_
      rintro e w1 ⟨rfl, rfl⟩
      go_wp2_with fail
      go_ret
      exact ⟨rfl, below1 _ _⟩
    · obtain rfl : R = false := by have := hv.out; simpa [h2] using this
      go_wp2_with fail
      go_ret
      exact ⟨rfl, below1 _ _⟩

set_option maxHeartbeats 800000 in
theorem sideHigh_any (l u v : Int) (a b c d : Bool) (w : World) (h : 0 ≤ l ∧ l ≤ v ∧ v ≤ u ∧ u ≤ 2000) :
    Calls Try.prog 46 #[.agg #[.int .i64 l, .int .i64 u, .int .i64 v, .bool a, .bool b, .bool c, .bool d], .bool true] w fun e w' =>
      e = .returned (.agg #[.int .i64 (u - v), .bool b, .bool d, .int .i64 3, .int .i64 4, .int .i64 7, .int .i64 8]) ∧ Below w.heap.size w w' := by
  obtain ⟨h1, h2, h3, h4⟩ := h
  go_enter Try.func46, Try.ntmps46
  go_wp2
  refine bodyPost_ret (results_cell_row rfl _ _ (w.heap.size + 1) 58 #[.int .i64 (u - v), .bool b, .bool d, .int .i64 3, .int .i64 4, .int .i64 7, .int .i64 8] (0, 0) _ rfl (heap_alloc2_new w _ _) Try.underlying58 rfl (by kernel_rfl)) rfl ?_
  exact ⟨rfl, below2 _ _ _⟩
set_option maxHeartbeats 800000 in
theorem sideLow_any (l u v : Int) (a b c d : Bool) (w : World) (h : 0 ≤ l ∧ l ≤ v ∧ v ≤ u ∧ u ≤ 2000) :
    Calls Try.prog 46 #[.agg #[.int .i64 l, .int .i64 u, .int .i64 v, .bool a, .bool b, .bool c, .bool d], .bool false] w fun e w' =>
      e = .returned (.agg #[.int .i64 (v - l), .bool a, .bool c, .int .i64 1, .int .i64 2, .int .i64 5, .int .i64 6]) ∧ Below w.heap.size w w' := by
  obtain ⟨h1, h2, h3, h4⟩ := h
  go_enter Try.func46, Try.ntmps46
  go_wp2
  refine bodyPost_ret (results_cell_row rfl _ _ (w.heap.size + 1) 58 #[.int .i64 (v - l), .bool a, .bool c, .int .i64 1, .int .i64 2, .int .i64 5, .int .i64 6] (0, 0) _ rfl (heap_alloc2_new w _ _) Try.underlying58 rfl (by kernel_rfl)) rfl ?_
  exact ⟨rfl, below2 _ _ _⟩

set_option maxHeartbeats 1000000 in
theorem interlocked_any (p q : Int) (a b c d : Bool) (x1 x2 x3 x4 y1 y2 y3 y4 : Int) (w : World) (R : Bool) (HR : Hid (R = (!(a && b) && (!(c && d) && (!(a && d) && (!(b && c) && (!(a && decide (5 < p)) && !(b && decide (5 < q))))))))) :
    Calls Try.prog 45 #[.agg #[.int .i64 p, .bool a, .bool c, .int .i64 x1, .int .i64 x2, .int .i64 x3, .int .i64 x4], .agg #[.int .i64 q, .bool b, .bool d, .int .i64 y1, .int .i64 y2, .int .i64 y3, .int .i64 y4]] w fun e w' =>
      e = .returned (.bool R) ∧ Below w.heap.size w w' := by
  go_enter Try.func45, Try.ntmps45
  go_wp2
  all_goals
    refine bodyPost_ret (results_tmp rfl _ _ _) rfl ?_
    refine ⟨ret_bool ?_, below2 _ _ _⟩
    rw [HR.out]
    clear HR
    simp_all

set_option maxRecDepth 100000 in
set_option maxHeartbeats 1000000 in
theorem safeI_any (l u v : Int) (a b c d : Bool) (w : World) :
    Calls Try.prog 18 #[.agg #[.int .i64 l, .int .i64 u, .int .i64 v, .bool a, .bool b, .bool c, .bool d]] w fun e w' => e = .returned (.bool (goodL ⟨l, u, v, a, b, c, d⟩)) ∧ Below w.heap.size w w' := by
  have HL := Lib.hid (fun W => hasLevels_any l u v a b c d W)
  obtain ⟨R, hR⟩ : ∃ R, goodL ⟨l, u, v, a, b, c, d⟩ = R := ⟨_, rfl⟩
  rw [hR]
  have HB := Lib.hid (Below.refl w.heap.size w)
  cases hl : levL ⟨l, u, v, a, b, c, d⟩ with
  | false =>
    obtain rfl : R = false := by rw [← hR]; exact goodL_lev hl
    rw [hl] at HL
    clear hl hR
    go_enter Try.func18, Try.ntmps18
    go_wp2_with fail
    obtain ⟨W, hW⟩ : ∃ W, World.alloc w (.cells #[.int .i64 l, .int .i64 u, .int .i64 v, .bool a, .bool b, .bool c, .bool d] 23) = W := ⟨_, rfl⟩
    obtain ⟨xb, hxb⟩ : ∃ x, (w : World).heap.size = x := ⟨_, rfl⟩
    have cxb0 : W.cell? ⟨xb, 0, none⟩ = some (.int .i64 l) := by rw [← hW, ← hxb, sNew]; rfl
    have cxb1 : W.cell? ⟨xb, 1, none⟩ = some (.int .i64 u) := by rw [← hW, ← hxb, sNew]; rfl
    have cxb2 : W.cell? ⟨xb, 2, none⟩ = some (.int .i64 v) := by rw [← hW, ← hxb, sNew]; rfl
    have cxb3 : W.cell? ⟨xb, 3, none⟩ = some (.bool a) := by rw [← hW, ← hxb, sNew]; rfl
    have cxb4 : W.cell? ⟨xb, 4, none⟩ = some (.bool b) := by rw [← hW, ← hxb, sNew]; rfl
    have cxb5 : W.cell? ⟨xb, 5, none⟩ = some (.bool c) := by rw [← hW, ← hxb, sNew]; rfl
    have cxb6 : W.cell? ⟨xb, 6, none⟩ = some (.bool d) := by rw [← hW, ← hxb, sNew]; rfl
    have HB1 := Lib.hid (show Below w.heap.size w W by rw [← hW]; exact HB.out.alloc HB.out.size _)
    rw [hW, hxb]
    clear hW hxb
    have Exb0 := fun (d : Nat) (os : Array Obj) => cell_regrown cxb0 d os
    have Exb1 := fun (d : Nat) (os : Array Obj) => cell_regrown cxb1 d os
    have Exb2 := fun (d : Nat) (os : Array Obj) => cell_regrown cxb2 d os
    have Exb3 := fun (d : Nat) (os : Array Obj) => cell_regrown cxb3 d os
    have Exb4 := fun (d : Nat) (os : Array Obj) => cell_regrown cxb4 d os
    have Exb5 := fun (d : Nat) (os : Array Obj) => cell_regrown cxb5 d os
    have Exb6 := fun (d : Nat) (os : Array Obj) => cell_regrown cxb6 d os
    clear cxb0 cxb1 cxb2 cxb3 cxb4 cxb5 cxb6
    have c1 := fun (dr : Nat) (os : Array Obj) => Calls.regrown_of (w := W) (d := dr) (os := os) (HL.out _)
    clear HL
    refine wp_region_quiet_below (by kernel_rfl) (by kernel_rfl) ?_
    repeat (go_big_quiet_step (first | exact c1 _ _))
    refine wpQuiet_nil ?_
    intro _ hw'
    obtain ⟨⟨dq, osq⟩, hw''⟩ := hw'
    subst hw''
    have HB2 := Lib.hid (HB1.out.trans ((below_regrown W dq osq).mono HB1.out.size))
    go_wp2_with fail
    go_ret
    exact ⟨rfl, HB2.out⟩
  | true =>
    have hi : 0 ≤ l ∧ l ≤ v ∧ v ≤ u ∧ u ≤ 2000 := levL_true hl
    have HI := Lib.hid (hR.symm.trans (goodL_int hl))
    rw [hl] at HL
    clear hl hR
    have H2 := Lib.hid (fun W => sideLow_any l u v a b c d W hi)
    have H3 := Lib.hid (fun W => sideHigh_any l u v a b c d W hi)
    have H4 := Lib.hid (fun W => interlocked_any (v - l) (u - v) a b c d 1 2 5 6 3 4 7 8 W R HI)
    clear hi HI
    go_enter Try.func18, Try.ntmps18
    go_wp2_with fail
    obtain ⟨W, hW⟩ : ∃ W, World.alloc w (.cells #[.int .i64 l, .int .i64 u, .int .i64 v, .bool a, .bool b, .bool c, .bool d] 23) = W := ⟨_, rfl⟩
    obtain ⟨xb, hxb⟩ : ∃ x, (w : World).heap.size = x := ⟨_, rfl⟩
    have cxb0 : W.cell? ⟨xb, 0, none⟩ = some (.int .i64 l) := by rw [← hW, ← hxb, sNew]; rfl
    have cxb1 : W.cell? ⟨xb, 1, none⟩ = some (.int .i64 u) := by rw [← hW, ← hxb, sNew]; rfl
    have cxb2 : W.cell? ⟨xb, 2, none⟩ = some (.int .i64 v) := by rw [← hW, ← hxb, sNew]; rfl
    have cxb3 : W.cell? ⟨xb, 3, none⟩ = some (.bool a) := by rw [← hW, ← hxb, sNew]; rfl
    have cxb4 : W.cell? ⟨xb, 4, none⟩ = some (.bool b) := by rw [← hW, ← hxb, sNew]; rfl
    have cxb5 : W.cell? ⟨xb, 5, none⟩ = some (.bool c) := by rw [← hW, ← hxb, sNew]; rfl
    have cxb6 : W.cell? ⟨xb, 6, none⟩ = some (.bool d) := by rw [← hW, ← hxb, sNew]; rfl
    have HB1 := Lib.hid (show Below w.heap.size w W by rw [← hW]; exact HB.out.alloc HB.out.size _)
    rw [hW, hxb]
    clear hW hxb
    have Exb0 := fun (d : Nat) (os : Array Obj) => cell_regrown cxb0 d os
    have Exb1 := fun (d : Nat) (os : Array Obj) => cell_regrown cxb1 d os
    have Exb2 := fun (d : Nat) (os : Array Obj) => cell_regrown cxb2 d os
    have Exb3 := fun (d : Nat) (os : Array Obj) => cell_regrown cxb3 d os
    have Exb4 := fun (d : Nat) (os : Array Obj) => cell_regrown cxb4 d os
    have Exb5 := fun (d : Nat) (os : Array Obj) => cell_regrown cxb5 d os
    have Exb6 := fun (d : Nat) (os : Array Obj) => cell_regrown cxb6 d os
    clear cxb0 cxb1 cxb2 cxb3 cxb4 cxb5 cxb6
    have c1 := fun (dr : Nat) (os : Array Obj) => Calls.regrown_of (w := W) (d := dr) (os := os) (HL.out _)
    have c2 := fun (dr : Nat) (os : Array Obj) => Calls.regrown_of (w := W) (d := dr) (os := os) (H2.out _)
    have c3 := fun (dr : Nat) (os : Array Obj) => Calls.regrown_of (w := W) (d := dr) (os := os) (H3.out _)
    have c4 := fun (dr : Nat) (os : Array Obj) => Calls.regrown_of (w := W) (d := dr) (os := os) (H4.out _)
    clear HL H2 H3 H4
    generalize v - l = p at c2 c4
    generalize u - v = q at c3 c4
    refine wp_region_quiet_below (by kernel_rfl) (by kernel_rfl) ?_
    repeat (go_big_quiet_step (first | (go_at_call 44; exact c1 _ _) | (go_at_call 45; exact c4 _ _) | (go_at_call_of 46 (Value.bool false); exact c2 _ _) | (go_at_call_of 46 (Value.bool true); exact c3 _ _)))
    refine wpQuiet_nil ?_
    intro _ hw'
    obtain ⟨⟨dq, osq⟩, hw''⟩ := hw'
    subst hw''
    have HB2 := Lib.hid (HB1.out.trans ((below_regrown W dq osq).mono HB1.out.size))
    go_wp2_with fail
    go_ret
    exact ⟨rfl, HB2.out⟩
end Go.Proofs.Ytmnagjjpncancaa
