/- The draws of chapter 3: arguments with vessels; what FnDepths compares. -/
import Derived.Test.YteeljlpbijmhlabDrC
import Derived.Test.YteeljlpbijmhlabIntS
namespace Go.Proofs.Yteeljlpbijmhlab
open Go.RowKit Go.PlainAid Go.Sort
set_option linter.unusedVariables false
set_option linter.unusedSimpArgs false

set_option maxHeartbeats 1000000 in
theorem rVs_same {w : World} {B1 B2 : Nat} {A1 A2 : Option Addr} {n : Nat} {vs : List Ves} (c1 c2 : Nat) (h1 : IsVs w B1 A1 n vs) (h2 : IsVs w B2 A2 n vs) (hm : n ≤ maxLen) :
    Calls Try.prog 10 #[.slice A1 n c1, .slice A2 n c2] w fun e w' => e = .returned (.bool true) ∧ Below w.heap.size w w' := by
  unfold maxLen at hm
  have HL := Lib.hid h1.len
  have H1 := Lib.hid h1
  have H2 := Lib.hid h2
  clear h1 h2
  go_enter Try.func10, Try.ntmps10
  go_wp2
  go_loopw [5] (fun i wr => ∃ k : Nat, k ≤ n ∧ i = .int .i64 k ∧ Below w.heap.size w wr) (fun i _ => n - (intOf i).toNat)
  case atStart => exact ⟨0, Nat.zero_le _, rfl, Below.refl _ _⟩
  case round =>
    obtain ⟨k, hk, rfl, hb⟩ := hrel
    by_cases hlt : k < n
    · have hkl : k < vs.length := by rw [HL.out]; exact hlt
      obtain ⟨a1, rfl, _, e0, e1, e2, e3, e4, e5⟩ := (H1.out.has.below (hb.mono H1.out.low)).vesAt hkl
      obtain ⟨a2, rfl, _, g0, g1, g2, g3, g4, g5⟩ := (H2.out.has.below (hb.mono H2.out.low)).vesAt hkl
      generalize vs[k]'hkl = V at e0 e1 e2 e3 e4 e5 g0 g1 g2 g3 g4 g5
      obtain ⟨i, s, l, b, d, q⟩ := V
      dsimp only at e0 e1 e2 e3 e4 e5 g0 g1 g2 g3 g4 g5
      have E0 := fun (d : Nat) (os : Array Obj) => cell_regrown e0 d os
      have E1 := fun (d : Nat) (os : Array Obj) => cell_regrown e1 d os
      have E2 := fun (d : Nat) (os : Array Obj) => cell_regrown e2 d os
      have E3 := fun (d : Nat) (os : Array Obj) => cell_regrown e3 d os
      have E4 := fun (d : Nat) (os : Array Obj) => cell_regrown e4 d os
      have E5 := fun (d : Nat) (os : Array Obj) => cell_regrown e5 d os
      have G0 := fun (d : Nat) (os : Array Obj) => cell_regrown g0 d os
      have G1 := fun (d : Nat) (os : Array Obj) => cell_regrown g1 d os
      have G2 := fun (d : Nat) (os : Array Obj) => cell_regrown g2 d os
      have G3 := fun (d : Nat) (os : Array Obj) => cell_regrown g3 d os
      have G4 := fun (d : Nat) (os : Array Obj) => cell_regrown g4 d os
      have G5 := fun (d : Nat) (os : Array Obj) => cell_regrown g5 d os
      have hk0 : (0 : Int) ≤ (k : Int) := by omega
      have hk1 : (k : Int) < (n : Int) := by omega
      have HB := Lib.hid hb
      clear hb H1 H2 e0 e1 e2 e3 e4 e5 g0 g1 g2 g3 g4 g5
      go_wp2
      refine wp_region_quiet_below (by kernel_rfl) (by kernel_rfl) ?_
      repeat (go_big_quiet_step (first | fail))
      refine wpQuiet_nil ?_
      intro _ hw'
      obtain ⟨⟨dq, osq⟩, hw''⟩ := hw'
      subst hw''
      have HB1 := Lib.hid (HB.out.trans ((below_regrown wr dq osq).mono HB.out.size))
      go_wp2
      go_roundw
      case rel => exact ⟨k + 1, by omega, by go_num, HB1.out⟩
      case measure => simp [intOf]; omega
    · obtain rfl : k = n := by omega
      clear H1 H2
      go_wp2
      go_ret
      exact ⟨rfl, hb⟩
set_option maxHeartbeats 400000 in
theorem rInts_same (A1 A2 : Option Addr) (n c1 c2 B1 B2 : Nat) (zs : List Int) (w : World) (hn : zs.length = n) (hm : n ≤ maxLen)
    (h1 : Has w B1 A1 (zs.map (.int .i64))) (h2 : Has w B2 A2 (zs.map (.int .i64))) :
    Calls Try.prog 14 #[.slice A1 n c1, .slice A2 n c2] w fun e w' => e = .returned (.bool true) ∧ Drawn w w' := by
  unfold maxLen at hm
  go_enter Try.func14, Try.ntmps14
  go_wp2
  go_loopw [5] (fun i wr => ∃ k : Nat, k ≤ n ∧ i = .int .i64 k ∧ Drawn w wr) (fun i _ => n - (intOf i).toNat)
  case atStart => exact ⟨0, Nat.zero_le _, rfl, Drawn.refl _⟩
  case round =>
    obtain ⟨k, hk, rfl, hD⟩ := hrel
    by_cases hlt : k < n
    · obtain ⟨a1, rfl, _, e1⟩ := (hD.has h1).intAt (k := k) (by omega)
      obtain ⟨a2, rfl, _, e2⟩ := (hD.has h2).intAt (k := k) (by omega)
      have hne : (zs[k] != zs[k]) = false := by simp
      generalize zs[k] = s at e1 e2 hne
      clear h1 h2 hn
      have hk0 : (0 : Int) ≤ (k : Int) := by omega
      have hk1 : (k : Int) < (n : Int) := by omega
      go_wp2
      go_quiet (fail)
      go_wp2
      go_roundw
      case rel => exact ⟨k + 1, by omega, by go_num, hD.step _⟩
      case measure => simp [intOf]; omega
    · obtain rfl : k = n := by omega
      clear h1 h2 hn
      go_wp2
      go_ret
      exact ⟨rfl, hD⟩
set_option maxHeartbeats 1000000 in
theorem rHas_yes {w : World} {B n : Nat} {A : Option Addr} {zs : List Int} (c : Nat) (hn : zs.length = n) (h : Has w B A (zs.map (.int .i64))) (hm : n ≤ 1048576) (x : Int) (hx : x ∈ zs) :
    Calls Try.prog 15 #[.slice A n c, .int .i64 x] w fun e w' => e = .returned (.bool true) ∧ w = w' := by
  have HI := Lib.hid h
  have HL := Lib.hid hn
  obtain ⟨j0, hj0, e0⟩ := List.getElem_of_mem hx
  have HY : Hid (∃ j, ∃ hj : j < zs.length, zs[j] = x) := Lib.hid ⟨j0, hj0, e0⟩
  clear h hx e0 hj0 hn
  go_enter Try.func15, Try.ntmps15
  go_wp2_with fail
  go_loop [5] (fun i => ∃ q : Nat, q ≤ n ∧ i = .int .i64 q ∧ Hid (∀ j (hj : j < zs.length), j < q → zs[j] ≠ x)) (fun i => n - (intOf i).toNat)
  case atStart => exact ⟨0, Nat.zero_le _, rfl, Lib.hid (fun j _ hj => absurd hj (by omega))⟩
  case round =>
    obtain ⟨q, hq, rfl, hno⟩ := hrel
    by_cases hlt : q < n
    · obtain ⟨a, rfl, hab, ez⟩ := HI.out.intAt (k := q) (by rw [HL.out]; exact hlt)
      have HNq : Hid (zs[q]'(by rw [HL.out]; exact hlt) ≠ x → ∀ j (hj : j < zs.length), j < q + 1 → zs[j] ≠ x) := Lib.hid (fun h j hj hjq => by
        rcases Nat.lt_succ_iff_lt_or_eq.1 hjq with h1 | rfl
        · exact hno.out j hj h1
        · exact h)
      generalize zs[q]'(by rw [HL.out]; exact hlt) = z at ez HNq
      have hq0 : (0 : Int) ≤ (q : Int) := by omega
      have hq1 : (q : Int) < (n : Int) := by omega
      clear hno HI
      by_cases hz : z = x
      · have hzb : (z == x) = true := by simp [hz]
        clear HNq hz
        go_wp2_with fail
        go_ret
        exact ⟨rfl, rfl⟩
      · have HR := Lib.hid (HNq.out hz)
        have hzb : (z == x) = false := by simp [hz]
        clear HNq hz
        go_wp2_with fail
        go_round
        case rel => exact ⟨q + 1, by omega, by go_num, HR⟩
        case measure => simp [intOf]; omega
    · obtain rfl : q = n := by omega
      obtain ⟨j, hj, e⟩ := HY.out
      exact absurd e (hno.out j hj (by rw [← HL.out]; exact hj))

/-- A drawn list of vessels, alone. -/
def DrwV (w : World) (e : Ending) (w' : World) : Prop :=
  ∃ (g c q : Nat) (vs : List Ves), e = .returned (.slice (some ⟨g, 0, none⟩) q c) ∧ q ≤ 10 ∧ q ≤ c ∧ IsVs w' w'.heap.size (some ⟨g, 0, none⟩) q vs ∧ Below w.heap.size w w'
/-- A drawn list of vessels and two numbers. -/
def DrwV2 (P : Int → Prop) (w : World) (e : Ending) (w' : World) : Prop :=
  ∃ (g c q : Nat) (vs : List Ves) (z1 z2 : Int), e = .returned (.tuple #[.slice (some ⟨g, 0, none⟩) q c, .int .i64 z1, .int .i64 z2]) ∧ P z2 ∧ q ≤ 10 ∧ q ≤ c ∧ IsVs w' w'.heap.size (some ⟨g, 0, none⟩) q vs ∧ Below w.heap.size w w'
set_option maxHeartbeats 1000000 in
theorem drawFlt_any {w : World} {A : Option Addr} {n : Nat} {zs : List Int} {B : Nat} (c : Nat) (h : Code_ w A n zs B) :
    Calls Try.prog 64 #[.slice A n c] w (DrwV w) := by
  have H := Lib.hid (h.start c)
  have hbs := Lib.hid (fun w' (h : (w.alloc (.cells #[.slice A n c, .int .i64 0, .int .u64 0] 75)).grownBy w' (some w.heap.size)) => below_start h)
  clear h
  go_enter Try.func64, Try.ntmps64
  go_wp2_with fail
  refine (vessels_at H.out (by omega) 6 (by omega)).mono ?_
  rintro e w1 ⟨g1, q, c1, rfl, hq, ho, hs⟩
  have HO := Lib.hid ho
  have HB := Lib.hid (hbs.out _ hs.grown)
  clear ho hs H
  go_wp2_with fail
  refine bodyPost_ret (results_tmp rfl _ _ _) rfl ?_
  obtain ⟨hqc, L, hL⟩ := HO.out.isV
  exact ⟨g1, c1, q, L, rfl, by omega, hqc, hL, HB.out⟩
set_option maxHeartbeats 1000000 in
theorem drawOrd_any {w : World} {A : Option Addr} {n : Nat} {zs : List Int} {B : Nat} (c : Nat) (h : Code_ w A n zs B) :
    Calls Try.prog 16 #[.slice A n c] w (DrwV w) := by
  have C := Lib.hid (drawFlt_any c h)
  clear h
  go_enter Try.func16, Try.ntmps16
  go_wp2_with fail
  refine C.out.mono ?_
  rintro e w1 ⟨g1, c1, q, L, rfl, h1, h2, h3, h4⟩
  have H3 := Lib.hid h3
  have H4 := Lib.hid h4
  clear h3 h4 C
  go_wp2_with fail
  refine bodyPost_ret (results_tmp rfl _ _ _) rfl ?_
  exact ⟨g1, c1, q, L, rfl, h1, h2, H3.out, H4.out⟩
set_option maxHeartbeats 1000000 in
theorem drawCel_any {w : World} {A : Option Addr} {n : Nat} {zs : List Int} {B : Nat} (c : Nat) (h : Code_ w A n zs B) :
    Calls Try.prog 19 #[.slice A n c] w (DrwV w) := by
  have C := Lib.hid (drawFlt_any c h)
  clear h
  go_enter Try.func19, Try.ntmps19
  go_wp2_with fail
  refine C.out.mono ?_
  rintro e w1 ⟨g1, c1, q, L, rfl, h1, h2, h3, h4⟩
  have H3 := Lib.hid h3
  have H4 := Lib.hid h4
  clear h3 h4 C
  go_wp2_with fail
  refine bodyPost_ret (results_tmp rfl _ _ _) rfl ?_
  exact ⟨g1, c1, q, L, rfl, h1, h2, H3.out, H4.out⟩
end Go.Proofs.Yteeljlpbijmhlab
