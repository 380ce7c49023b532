/- Chapter 2: two equal waterways are told equal; the size of a waterway. -/
import Derived.Test.YtgnopkemcgbedabWayTo
import Derived.Lib.QuietBelow
import Derived.Maps.AppendAt
namespace Go.Proofs.Ytgnopkemcgbedab
open Go.RowKit Go.PlainAid Go.Sort

set_option maxHeartbeats 1000000 in
theorem eqRS_same (A1 A2 : Option Addr) (n c1 c2 B1 B2 : Nat) (rs : List (Int × Int × Int)) (w : World) (hn : rs.length = n) (hm : n ≤ maxLen) (hB1 : B1 ≤ w.heap.size) (hB2 : B2 ≤ w.heap.size)
    (h1 : Has w B1 A1 (flat rs)) (h2 : Has w B2 A2 (flat rs)) :
    Calls Try.prog 89 #[.slice A1 n c1, .slice A2 n c2] w fun e w' => e = .returned (.bool true) ∧ Below w.heap.size w w' := by
  unfold maxLen at hm
  have HL := Lib.hid hn
  have H1 := Lib.hid h1
  have H2 := Lib.hid h2
  clear hn h1 h2
  go_enter Try.func89, Try.ntmps89
  go_wp2
  go_loopw [5] (fun i wr => ∃ k : Nat, k ≤ n ∧ i = .int .i64 k ∧ Below w.heap.size w wr) (fun i _ => n - (intOf i).toNat)
  case atStart => exact ⟨0, Nat.zero_le _, rfl, Below.refl _ _⟩
  case round =>
    obtain ⟨k, hk, rfl, hb⟩ := hrel
    by_cases hlt : k < n
    · have hkl : k < rs.length := by rw [HL.out]; exact hlt
      obtain ⟨a1, rfl, _, e0, e1, e2⟩ := (H1.out.below (hb.mono hB1)).reachAt hkl
      obtain ⟨a2, rfl, _, g0, g1, g2⟩ := (H2.out.below (hb.mono hB2)).reachAt hkl
      obtain ⟨e1, e2⟩ := reach_forms e1 e2
      obtain ⟨g1, g2⟩ := reach_forms g1 g2
      generalize (rs[k]'hkl).1 = l at *
      generalize (rs[k]'hkl).2.1 = d at *
      generalize (rs[k]'hkl).2.2 = s at *
      have E0 := fun (d : Nat) (os : Array Obj) => cell_regrown e0 d os
      have E1 := fun (d : Nat) (os : Array Obj) => cell_regrown e1 d os
      have E2 := fun (d : Nat) (os : Array Obj) => cell_regrown e2 d os
      have G0 := fun (d : Nat) (os : Array Obj) => cell_regrown g0 d os
      have G1 := fun (d : Nat) (os : Array Obj) => cell_regrown g1 d os
      have G2 := fun (d : Nat) (os : Array Obj) => cell_regrown g2 d os
      have cM := fun (dr : Nat) (os : Array Obj) => Calls.regrown_of (w := wr) (d := dr) (os := os) (eqReach_same l d s _)
      have hk0 : (0 : Int) ≤ (k : Int) := by omega
      have hk1 : (k : Int) < (n : Int) := by omega
      have HB := Lib.hid hb
      clear hb H1 H2 e0 e1 e2 g0 g1 g2
      go_wp2
      refine wp_region_quiet_below (by kernel_rfl) (by kernel_rfl) ?_
      repeat (quiet_step (exact cM _ _))
      refine wpQuiet_nil ?_
      intro _ hw'
      obtain ⟨⟨dq, osq⟩, hw''⟩ := hw'
      subst hw''
      go_wp2
      go_roundw
      case rel => exact ⟨k + 1, by omega, by go_num, HB.out.trans ((below_regrown wr dq osq).mono HB.out.size)⟩
      case measure => simp [intOf]; omega
    · obtain rfl : k = n := by omega
      clear H1 H2
      go_wp2
      go_ret
      exact ⟨rfl, hb⟩
set_option maxHeartbeats 1000000 in
theorem eqW_same (A1 A2 D1 D2 : Option Addr) (n c1 c2 n2 e1 e2 B1 B2 B3 B4 : Nat) (rs : List (Int × Int × Int)) (zs : List Int) (w : World) (hn : rs.length = n) (hm : n ≤ maxLen) (hn2 : zs.length = n2) (hm2 : n2 ≤ maxLen)
    (hB1 : B1 ≤ w.heap.size) (hB2 : B2 ≤ w.heap.size) (hB3 : B3 ≤ w.heap.size) (hB4 : B4 ≤ w.heap.size) (h1 : Has w B1 A1 (flat rs)) (h2 : Has w B2 A2 (flat rs)) (h3 : Has w B3 D1 (zs.map (.int .i64))) (h4 : Has w B4 D2 (zs.map (.int .i64))) :
    Calls Try.prog 41 #[.agg #[.slice A1 n c1, .slice D1 n2 e1], .agg #[.slice A2 n c2, .slice D2 n2 e2]] w fun e w' => e = .returned (.bool true) ∧ Below w.heap.size w w' := by
  have CR := Lib.hid (fun (W : World) (hb : Below w.heap.size w W) => eqRS_same A1 A2 n c1 c2 B1 B2 rs W hn hm (by have := hb.size; omega) (by have := hb.size; omega) (h1.below (hb.mono hB1)) (h2.below (hb.mono hB2)))
  have CI := Lib.hid (fun (W : World) (hb : Below w.heap.size w W) => eqI_same D1 D2 n2 e1 e2 B3 B4 zs W hn2 hm2 (h3.below (hb.mono hB3)) (h4.below (hb.mono hB4)))
  clear hn hn2 h1 h2 h3 h4
  go_enter Try.func41, Try.ntmps41
  go_wp2_with fail
  have hba : Below w.heap.size w ((w.alloc (.cells #[.slice A1 n c1, .slice D1 n2 e1] 27)).alloc (.cells #[.slice A2 n c2, .slice D2 n2 e2] 27)) := ((Below.refl _ _).alloc (Nat.le_refl _) _).alloc (by simp) _
  have q0 := (heap_alloc_old (w.alloc (.cells #[.slice A1 n c1, .slice D1 n2 e1] 27)) (.cells #[.slice A2 n c2, .slice D2 n2 e2] 27) (r := w.heap.size) (by simp)).trans (heap_alloc_new w _)
  have q1 := heap_alloc2_new w (.cells #[.slice A1 n c1, .slice D1 n2 e1] 27) (.cells #[.slice A2 n c2, .slice D2 n2 e2] 27)
  have qs : ((w.alloc (.cells #[.slice A1 n c1, .slice D1 n2 e1] 27)).alloc (.cells #[.slice A2 n c2, .slice D2 n2 e2] 27)).heap.size = w.heap.size + 2 := by simp
  refine (CR.out _ hba).mono ?_
  rintro e w1 ⟨rfl, hb1⟩
  rw [qs] at hb1
  have p0 := (hb1.block _ (by omega)).trans q0
  have p1 := (hb1.block _ (by omega)).trans q1
  have x0 := cell_of_row w1 _ 1 _ _ _ p0
  have x1 := cell_of_row w1 _ 1 _ _ _ p1
  have HB1 := Lib.hid (hba.trans (hb1.mono (by omega)))
  clear hba q0 q1 qs hb1 p0 p1
  go_wp2_with fail
  refine (CI.out _ HB1.out).mono ?_
  rintro e w2 ⟨rfl, hD⟩
  have HB2 := Lib.hid (HB1.out.trans (hD.below _))
  clear hD
  go_wp2_with fail
  go_ret
  exact ⟨rfl, HB2.out⟩

set_option maxHeartbeats 400000 in
theorem szW_ok (A A2 : Option Addr) (n c n2 c2 : Nat) (left : Int) (w : World) (hm : n ≤ maxLen) (hm2 : n2 ≤ maxLen) (hl : left ≤ 1048576) (hfit : (n : Int) + (n2 : Int) ≤ left) :
    Calls Try.prog 39 #[.agg #[.slice A n c, .slice A2 n2 c2], .int .i64 left] w fun e w' => e = .returned (.int .i64 (left - n - n2)) ∧ Below w.heap.size w w' := by
  have CR := Lib.hid (fun W => szR_ok A n c left W hm hl (by omega))
  have CI := Lib.hid (fun W => szI_ok A2 n2 c2 (left - n) W hm2 (by omega) (by omega))
  clear hm hm2
  go_enter Try.func39, Try.ntmps39
  go_wp2_with fail
  refine (CR.out _).mono ?_
  rintro e w1 ⟨rfl, rfl⟩
  go_wp2_with fail
  refine (CI.out _).mono ?_
  rintro e w1 ⟨rfl, rfl⟩
  go_wp2_with fail
  go_ret
  exact ⟨rfl, (Below.refl _ _).alloc (Nat.le_refl _) _⟩
end Go.Proofs.Ytgnopkemcgbedab
