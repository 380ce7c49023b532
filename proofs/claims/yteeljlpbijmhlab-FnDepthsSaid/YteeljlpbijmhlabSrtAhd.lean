/- Chapter 3, the model: which vessel stands ahead. -/
import Derived.Test.YteeljlpbijmhlabSrtOrd
import Derived.Lib.QuietBelow
namespace Go.Proofs.Yteeljlpbijmhlab
open Go.RowKit Go.PlainAid Go.Sort
set_option linter.unusedVariables false
set_option linter.unusedSimpArgs false

/-- The model's word. -/
def ahdB (u d u2 d2 : Int) : Bool := if u = u2 then decide (d2 ≤ d) else decide (u2 < u)
theorem quad {w : World} {i : Int} {s : ByteArray} {l b d q : Int} {i2 : Int} {s2 : ByteArray} {l2 b2 d2 q2 : Int} :
    (∀ k, ((w.alloc (.cells #[.int .i64 i, .string s, .int .i64 l, .int .i64 b, .int .i64 d, .int .i64 q] 38)).alloc (.cells #[.int .i64 i2, .string s2, .int .i64 l2, .int .i64 b2, .int .i64 d2, .int .i64 q2] 38)).cell? ⟨w.heap.size, k, none⟩ = #[Value.int .i64 i, .string s, .int .i64 l, .int .i64 b, .int .i64 d, .int .i64 q][k]?) ∧
    (∀ k, ((w.alloc (.cells #[.int .i64 i, .string s, .int .i64 l, .int .i64 b, .int .i64 d, .int .i64 q] 38)).alloc (.cells #[.int .i64 i2, .string s2, .int .i64 l2, .int .i64 b2, .int .i64 d2, .int .i64 q2] 38)).cell? ⟨w.heap.size + 1, k, none⟩ = #[Value.int .i64 i2, .string s2, .int .i64 l2, .int .i64 b2, .int .i64 d2, .int .i64 q2][k]?) := by
  refine ⟨fun k => ?_, fun k => ?_⟩
  · exact (((Below.refl (w.alloc _).heap.size (w.alloc _)).alloc (Nat.le_refl _) _).cell (by simp)).trans (vNew w _ _ k)
  · simp
set_option maxRecDepth 100000 in
set_option maxHeartbeats 4000000 in
theorem l3Ahead_any (i : Int) (s : ByteArray) (l b d q : Int) (i2 : Int) (s2 : ByteArray) (l2 b2 d2 q2 : Int) (w : World) (h0 : 0 ≤ l * b) (h1 : l * b ≤ 24) (h2 : 0 ≤ l2 * b2) (h3 : l2 * b2 ≤ 24) :
    Calls Try.prog 70 #[.agg #[.int .i64 i, .string s, .int .i64 l, .int .i64 b, .int .i64 d, .int .i64 q], .agg #[.int .i64 i2, .string s2, .int .i64 l2, .int .i64 b2, .int .i64 d2, .int .i64 q2]] w fun e w' =>
      e = .returned (.bool (ahdB (l * b) d (l2 * b2) d2)) ∧ Below w.heap.size w w' := by
  have C1 := Lib.hid (fun W => l3Cells_any i s l b d q W h0 h1)
  have C2 := Lib.hid (fun W => l3Cells_any i2 s2 l2 b2 d2 q2 W h2 h3)
  generalize l * b = u at C1 ⊢
  generalize l2 * b2 = u2 at C2 ⊢
  clear h0 h1 h2 h3
  obtain ⟨R, hR⟩ : ∃ R, ahdB u d u2 d2 = R := ⟨_, rfl⟩
  rw [hR]
  have HR := Lib.hid hR
  clear hR
  obtain ⟨g, hg⟩ : ∃ g, w.heap.size = g := ⟨_, rfl⟩
  obtain ⟨W1, hW1⟩ : ∃ W, (w.alloc (.cells #[.int .i64 i, .string s, .int .i64 l, .int .i64 b, .int .i64 d, .int .i64 q] 38)).alloc (.cells #[.int .i64 i2, .string s2, .int .i64 l2, .int .i64 b2, .int .i64 d2, .int .i64 q2] 38) = W := ⟨_, rfl⟩
  have hbW : Below w.heap.size w W1 := by rw [← hW1]; exact ((Below.refl _ _).alloc (Nat.le_refl _) _).alloc (by simp) _
  have hsz : W1.heap.size = g + 1 + 1 := by rw [← hW1, ← hg]; simp
  have hq4 := @quad w i s l b d q i2 s2 l2 b2 d2 q2
  rw [hW1, hg] at hq4
  obtain ⟨ca, cb⟩ := hq4
  have CA := Lib.hid (fun W (hq : Below W1.heap.size W1 W) k => (hq.cell (p := ⟨g, k, none⟩) (by simp only [hsz]; omega)).trans (ca k))
  have CB := Lib.hid (fun W (hq : Below W1.heap.size W1 W) k => (hq.cell (p := ⟨g + 1, k, none⟩) (by simp only [hsz]; omega)).trans (cb k))
  have HB := Lib.hid hbW
  have HG := Lib.hid hg
  have R0 := Lib.hid (Below.refl W1.heap.size W1)
  clear ca cb hbW hsz
  have hW1' := Lib.hid hW1
  clear hW1
  go_enter Try.func70, Try.ntmps70
  go_wp2_with fail
  try rw [hW1'.out]
  try rw [hg]
  clear hg hW1'
  have cM1 := fun (dr : Nat) (os : Array Obj) => Calls.regrown_of (w := W1) (d := dr) (os := os) (C1.out _)
  have cM2 := fun (dr : Nat) (os : Array Obj) => Calls.regrown_of (w := W1) (d := dr) (os := os) (C2.out _)
  have A0 := fun (d : Nat) (os : Array Obj) => cell_regrown (CA.out _ R0.out 0) d os
  have A1 := fun (d : Nat) (os : Array Obj) => cell_regrown (CA.out _ R0.out 1) d os
  have A2 := fun (d : Nat) (os : Array Obj) => cell_regrown (CA.out _ R0.out 2) d os
  have A3 := fun (d : Nat) (os : Array Obj) => cell_regrown (CA.out _ R0.out 3) d os
  have A4 := fun (d : Nat) (os : Array Obj) => cell_regrown (CA.out _ R0.out 4) d os
  have A5 := fun (d : Nat) (os : Array Obj) => cell_regrown (CA.out _ R0.out 5) d os
  have B0 := fun (d : Nat) (os : Array Obj) => cell_regrown (CB.out _ R0.out 0) d os
  have B1 := fun (d : Nat) (os : Array Obj) => cell_regrown (CB.out _ R0.out 1) d os
  have B2 := fun (d : Nat) (os : Array Obj) => cell_regrown (CB.out _ R0.out 2) d os
  have B3 := fun (d : Nat) (os : Array Obj) => cell_regrown (CB.out _ R0.out 3) d os
  have B4 := fun (d : Nat) (os : Array Obj) => cell_regrown (CB.out _ R0.out 4) d os
  have B5 := fun (d : Nat) (os : Array Obj) => cell_regrown (CB.out _ R0.out 5) d os
  by_cases hu : u = u2
  · have hne : (u != u2) = false := by simp [hu]
    obtain rfl : R = decide (d2 ≤ d) := HR.out.symm.trans (if_pos hu)
    clear HR
    refine wp_region_quiet_below (by kernel_rfl) (by kernel_rfl) ?_
    repeat (go_big_quiet_step (first | exact cM1 _ _ | exact cM2 _ _))
    refine wpQuiet_nil ?_
    intro W2 hw'
    have HB2 : Hid (Below W1.heap.size W1 W2) := Lib.hid (by obtain ⟨p, e⟩ := hw'; rw [e]; exact below_regrown W1 p.d p.os)
    clear hw'
    have X0 := CA.out _ HB2.out 4
    have Y0 := CB.out _ HB2.out 4
    rw [getV4] at X0 Y0
    clear A0 A1 A2 A3 A4 A5 B0 B1 B2 B3 B4 B5 cM1 cM2
    go_wp2_with fail
    go_ret
    exact ⟨by first | rfl | simp, HB.out.trans (HB2.out.mono HB.out.size)⟩
  · have hne : (u != u2) = true := by simp [hu]
    obtain rfl : R = decide (u2 < u) := HR.out.symm.trans (if_neg hu)
    clear HR
    refine wp_region_quiet_below (by kernel_rfl) (by kernel_rfl) ?_
    repeat (go_big_quiet_step (first | exact cM1 _ _ | exact cM2 _ _))
    refine wpQuiet_nil ?_
    intro W2 hw'
    have HB2 : Hid (Below W1.heap.size W1 W2) := Lib.hid (by obtain ⟨p, e⟩ := hw'; rw [e]; exact below_regrown W1 p.d p.os)
    clear hw'
    clear A0 A1 A2 A3 A4 A5 B0 B1 B2 B3 B4 B5 cM1 cM2
    have cM1 := fun (dr : Nat) (os : Array Obj) => Calls.regrown_of (w := W2) (d := dr) (os := os) (C1.out _)
    have cM2 := fun (dr : Nat) (os : Array Obj) => Calls.regrown_of (w := W2) (d := dr) (os := os) (C2.out _)
    have A0 := fun (d : Nat) (os : Array Obj) => cell_regrown (CA.out _ HB2.out 0) d os
    have A1 := fun (d : Nat) (os : Array Obj) => cell_regrown (CA.out _ HB2.out 1) d os
    have A2 := fun (d : Nat) (os : Array Obj) => cell_regrown (CA.out _ HB2.out 2) d os
    have A3 := fun (d : Nat) (os : Array Obj) => cell_regrown (CA.out _ HB2.out 3) d os
    have A4 := fun (d : Nat) (os : Array Obj) => cell_regrown (CA.out _ HB2.out 4) d os
    have A5 := fun (d : Nat) (os : Array Obj) => cell_regrown (CA.out _ HB2.out 5) d os
    have B0 := fun (d : Nat) (os : Array Obj) => cell_regrown (CB.out _ HB2.out 0) d os
    have B1 := fun (d : Nat) (os : Array Obj) => cell_regrown (CB.out _ HB2.out 1) d os
    have B2 := fun (d : Nat) (os : Array Obj) => cell_regrown (CB.out _ HB2.out 2) d os
    have B3 := fun (d : Nat) (os : Array Obj) => cell_regrown (CB.out _ HB2.out 3) d os
    have B4 := fun (d : Nat) (os : Array Obj) => cell_regrown (CB.out _ HB2.out 4) d os
    have B5 := fun (d : Nat) (os : Array Obj) => cell_regrown (CB.out _ HB2.out 5) d os
    go_wp2_with fail
    refine wp_region_quiet_below (by kernel_rfl) (by kernel_rfl) ?_
    repeat (go_big_quiet_step (first | exact cM1 _ _ | exact cM2 _ _))
    refine wpQuiet_nil ?_
    intro W3 hw'
    have HB3 : Hid (Below W1.heap.size W1 W3) := Lib.hid (by obtain ⟨p, e⟩ := hw'; rw [e]; exact HB2.out.trans ((below_regrown W2 p.d p.os).mono HB2.out.size))
    clear hw'
    clear A0 A1 A2 A3 A4 A5 B0 B1 B2 B3 B4 B5 cM1 cM2
    go_wp2_with fail
    go_ret
    exact ⟨by first | rfl | simp, HB.out.trans (HB3.out.mono HB.out.size)⟩
end Go.Proofs.Yteeljlpbijmhlab
