/- Chapter 11: the volume that flows: the model and the program. -/
import Derived.Test.YtgnopkemcgbedaaPoB
namespace Go.Proofs.Ytgnopkemcgbedaa
open Go.RowKit Go.PlainAid Go.Sort
set_option linter.unusedVariables false
set_option linter.unusedSimpArgs false

theorem ite_mnP (x y : Int) : (if y < x then y else x) = min x y := by split <;> omega
theorem ite_mxP (x y : Int) : (if x < y then y else x) = max x y := by split <;> omega
attribute [local go_sem] ite_mnP ite_mxP
theorem l1LeastP_any (x y : Int) (w : World) : Calls Try.prog 83 #[.int .i64 x, .int .i64 y] w fun e w' => e = .returned (.int .i64 (min x y)) ∧ w = w' := by
  by_cases h : x < y
  · rw [show min x y = x by omega]
    go_enter Try.func83, Try.ntmps83
    go_wp2
    go_ret
    exact ⟨rfl, rfl⟩
  · rw [show min x y = y by omega]
    go_enter Try.func83, Try.ntmps83
    go_wp2
    go_ret
    exact ⟨rfl, rfl⟩

set_option maxRecDepth 100000 in
set_option maxHeartbeats 2000000 in
theorem l11Flow_any (a f v a2 f2 v2 : Int) (w : World) (hg : goodP ⟨a, f, v⟩) (hg2 : goodP ⟨a2, f2, v2⟩) :
    Calls Try.prog 65 #[.agg #[.int .i64 a, .int .i64 f, .int .i64 v], .agg #[.int .i64 a2, .int .i64 f2, .int .i64 v2]] w fun e w' => e = .returned (.int .i64 (flo ⟨a, f, v⟩ ⟨a2, f2, v2⟩)) ∧ Below w.heap.size w w' := by
  have b1 := hgt_bd hg
  have b2 := hgt_bd hg2
  have p1 := pr_bd hg hg2
  have p2 := pr_bd hg2 hg
  have CA := Lib.hid (fun W => ltaS_any a f v W hg)
  have CB := Lib.hid (fun W => ltaS_any a2 f2 v2 W hg2)
  have CM := Lib.hid (fun x y W => l1LeastP_any x y W)
  have HE : Hid (flo ⟨a, f, v⟩ ⟨a2, f2, v2⟩ = min v (max (hgt ⟨a, f, v⟩ * a2 - hgt ⟨a2, f2, v2⟩ * a) 0 / (a + a2))) := Lib.hid rfl
  obtain ⟨⟨g1, g2⟩, -, g5, g6⟩ := hg
  obtain ⟨⟨k1, k2⟩, -, k5, k6⟩ := hg2
  dsimp only at g1 g2 g5 g6 k1 k2 k5 k6 p1 p2
  generalize hgt ⟨a, f, v⟩ = z1 at *
  generalize hgt ⟨a2, f2, v2⟩ = z2 at *
  generalize flo ⟨a, f, v⟩ ⟨a2, f2, v2⟩ = z at *
  rw [Int.mul_comm z1 a2, Int.mul_comm z2 a] at HE
  rw [Int.mul_comm z1 a2] at p1
  rw [Int.mul_comm z2 a] at p2
  obtain ⟨p11, p12⟩ := p1
  obtain ⟨p21, p22⟩ := p2
  clear b1 b2
  obtain ⟨W4, hW4⟩ : ∃ W, World.alloc w (.cells #[.int .i64 a, .int .i64 f, .int .i64 v] 35) = W := ⟨_, rfl⟩
  obtain ⟨W5, hW5⟩ : ∃ W, World.alloc W4 (.cells #[.int .i64 a2, .int .i64 f2, .int .i64 v2] 35) = W := ⟨_, rfl⟩
  have h45 : Below W4.heap.size W4 W5 := by rw [← hW5]; exact below1 _ _
  have h04 : Below w.heap.size w W4 := by rw [← hW4]; exact below1 _ _
  have hx4 : W4.heap.size = w.heap.size + 1 := by rw [← hW4]; simp
  have d0 : W4.cell? ⟨w.heap.size, 0, none⟩ = some (.int .i64 a) := by rw [← hW4, sNew]; rfl
  have d1 : W4.cell? ⟨w.heap.size, 1, none⟩ = some (.int .i64 f) := by rw [← hW4, sNew]; rfl
  have d2 : W4.cell? ⟨w.heap.size, 2, none⟩ = some (.int .i64 v) := by rw [← hW4, sNew]; rfl
  have e0 : W5.cell? ⟨W4.heap.size, 0, none⟩ = some (.int .i64 a2) := by rw [← hW5, sNew]; rfl
  have e1 : W5.cell? ⟨W4.heap.size, 1, none⟩ = some (.int .i64 f2) := by rw [← hW5, sNew]; rfl
  have e2 : W5.cell? ⟨W4.heap.size, 2, none⟩ = some (.int .i64 v2) := by rw [← hW5, sNew]; rfl
  replace d0 := (h45.cell (p := ⟨w.heap.size, 0, none⟩) (World.block_lt_of_cell? _ _ d0)).trans d0
  replace d1 := (h45.cell (p := ⟨w.heap.size, 1, none⟩) (World.block_lt_of_cell? _ _ d1)).trans d1
  replace d2 := (h45.cell (p := ⟨w.heap.size, 2, none⟩) (World.block_lt_of_cell? _ _ d2)).trans d2
  rw [hx4] at e0 e1 e2
  have HB5 := Lib.hid (h04.trans (h45.mono h04.size))
  have HCE := Lib.hid (fun W (hb : Below W5.heap.size W5 W) => show (W.cell? ⟨w.heap.size, 0, none⟩ = some (.int .i64 a) ∧ W.cell? ⟨w.heap.size, 1, none⟩ = some (.int .i64 f) ∧ W.cell? ⟨w.heap.size, 2, none⟩ = some (.int .i64 v)) ∧ (W.cell? ⟨w.heap.size + 1, 0, none⟩ = some (.int .i64 a2) ∧ W.cell? ⟨w.heap.size + 1, 1, none⟩ = some (.int .i64 f2) ∧ W.cell? ⟨w.heap.size + 1, 2, none⟩ = some (.int .i64 v2)) from
    ⟨⟨(hb.cell (World.block_lt_of_cell? _ _ d0)).trans d0, (hb.cell (World.block_lt_of_cell? _ _ d1)).trans d1, (hb.cell (World.block_lt_of_cell? _ _ d2)).trans d2⟩, (hb.cell (World.block_lt_of_cell? _ _ e0)).trans e0, (hb.cell (World.block_lt_of_cell? _ _ e1)).trans e1, (hb.cell (World.block_lt_of_cell? _ _ e2)).trans e2⟩)
  rw [← hW4] at hW5
  clear h45 h04 hx4 d0 d1 d2 e0 e1 e2 hW4
  go_enter Try.func65, Try.ntmps65
  go_wp2_with fail
  (try rw [hW5])
  clear hW5
  obtain ⟨⟨x0, x1, x2⟩, y0, y1, y2⟩ := HCE.out _ (Below.refl _ W5)
  have X0 := fun (d : Nat) (os : Array Obj) => cell_regrown x0 d os
  have X1 := fun (d : Nat) (os : Array Obj) => cell_regrown x1 d os
  have X2 := fun (d : Nat) (os : Array Obj) => cell_regrown x2 d os
  have Y0 := fun (d : Nat) (os : Array Obj) => cell_regrown y0 d os
  have Y1 := fun (d : Nat) (os : Array Obj) => cell_regrown y1 d os
  have Y2 := fun (d : Nat) (os : Array Obj) => cell_regrown y2 d os
  have k1' := fun (d : Nat) (os : Array Obj) => Calls.regrown_of (w := W5) (d := d) (os := os) (CA.out _)
  have k2' := fun (d : Nat) (os : Array Obj) => Calls.regrown_of (w := W5) (d := d) (os := os) (CB.out _)
  clear x0 x1 x2 y0 y1 y2
  refine wp_region_quiet_below (by kernel_rfl) (by kernel_rfl) ?_
  repeat (go_big_quiet_step (first | (go_at_call_of 69 (Value.int .i64 f); exact k1' _ _) | (go_at_call_of 69 (Value.int .i64 f2); exact k2' _ _)))
  refine wpQuiet_nil ?_
  intro _ hw'
  obtain ⟨⟨dq, osq⟩, hw''⟩ := hw'
  subst hw''
  have HB6 := Lib.hid (HB5.out.trans ((below_regrown W5 dq osq).mono HB5.out.size))
  clear X0 X1 X2 Y0 Y1 Y2 k1' k2' CA CB
  have hlow := below_regrown W5 dq osq
  obtain ⟨W6, hW6⟩ : ∃ W, grow (redrawn W5 dq) osq = W := ⟨_, rfl⟩
  rw [hW6] at HB6 hlow
  try simp only [hW6]
  clear hW6
  have HX : Hid (z = min v (max (a2 * z1 - a * z2) 0 / (a + a2))) := HE
  have hx1 : a2 * z1 - a * z2 ≤ 30000000 := by omega
  have hx2 : -30000000 ≤ a2 * z1 - a * z2 := by omega
  generalize a2 * z1 - a * z2 = X at *
  by_cases h0 : X ≤ 0
  · obtain rfl : z = 0 := by
      have h := HX.out
      rw [show max X 0 = 0 by omega, Int.zero_ediv] at h
      omega
    clear HE HX
    go_wp2_with fail
    go_ret
    exact ⟨rfl, HB6.out⟩
  · have hX0 : 0 < X := by omega
    obtain rfl : z = min v (X / (a + a2)) := by
      have h := HX.out
      rwa [show max X 0 = X by omega] at h
    have hd := div_bdP (x := X) (X := 30000000) (y := a + a2) (by omega) (by omega)
    obtain ⟨⟨x0, x1, x2⟩, y0, y1, y2⟩ := HCE.out _ hlow
    have X0 := fun (d : Nat) (os : Array Obj) => cell_regrown x0 d os
    have X1 := fun (d : Nat) (os : Array Obj) => cell_regrown x1 d os
    have X2 := fun (d : Nat) (os : Array Obj) => cell_regrown x2 d os
    have Y0 := fun (d : Nat) (os : Array Obj) => cell_regrown y0 d os
    have Y1 := fun (d : Nat) (os : Array Obj) => cell_regrown y1 d os
    have Y2 := fun (d : Nat) (os : Array Obj) => cell_regrown y2 d os
    have k3' := fun (d : Nat) (os : Array Obj) => Calls.regrown_of (w := W6) (d := d) (os := os) (toBelow (CM.out v (X / (a + a2)) _))
    obtain ⟨hd1, hd2⟩ := hd
    have hs : 0 < a + a2 := by omega
    have hs2 : a + a2 ≤ 200 := by omega
    clear x0 x1 x2 y0 y1 y2 HE HX hlow HCE CM
    go_wp2_with fail
    refine wp_region_quiet_below (by kernel_rfl) (by kernel_rfl) ?_
    repeat (go_big_quiet_step (first | (go_at_call 83; exact k3' _ _)))
    refine wpQuiet_nil ?_
    intro _ hw'
    obtain ⟨⟨dq, osq⟩, hw''⟩ := hw'
    subst hw''
    have HB7 := Lib.hid (HB6.out.trans ((below_regrown W6 dq osq).mono HB6.out.size))
    clear X0 X1 X2 Y0 Y1 Y2 k3'
    go_wp2_with fail
    go_ret
    exact ⟨rfl, HB7.out⟩
set_option maxRecDepth 100000 in
set_option maxHeartbeats 2000000 in
theorem flowS_any (a f v a2 f2 v2 : Int) (w : World) (z : Int) (x : Bool) (hA : FloA ⟨a, f, v⟩ ⟨a2, f2, v2⟩ z x) :
    Calls Try.prog 25 #[.agg #[.int .i64 a, .int .i64 f, .int .i64 v], .agg #[.int .i64 a2, .int .i64 f2, .int .i64 v2]] w fun e w' => e = .returned (.tuple #[.int .i64 z, .bool x]) ∧ Below w.heap.size w w' := by
  have C0 := Lib.hid (fun W => l11Good_any a f v W)
  have C1 := Lib.hid (fun W => l11Good_any a2 f2 v2 W)
  have HNO := Lib.hid hA.2
  have HYES := Lib.hid hA.1
  obtain ⟨G, hG⟩ : ∃ G, decide (goodP ⟨a, f, v⟩) = G := ⟨_, rfl⟩
  obtain ⟨G2, hG2⟩ : ∃ G, decide (goodP ⟨a2, f2, v2⟩) = G := ⟨_, rfl⟩
  rw [hG] at C0
  rw [hG2] at C1
  have HGE := Lib.hid hG
  have HGE2 := Lib.hid hG2
  clear hA hG hG2
  obtain ⟨W4, hW4⟩ : ∃ W, World.alloc w (.cells #[.int .i64 a, .int .i64 f, .int .i64 v] 35) = W := ⟨_, rfl⟩
  obtain ⟨W5, hW5⟩ : ∃ W, World.alloc W4 (.cells #[.int .i64 a2, .int .i64 f2, .int .i64 v2] 35) = W := ⟨_, rfl⟩
  have h45 : Below W4.heap.size W4 W5 := by rw [← hW5]; exact below1 _ _
  have h04 : Below w.heap.size w W4 := by rw [← hW4]; exact below1 _ _
  have hx4 : W4.heap.size = w.heap.size + 1 := by rw [← hW4]; simp
  have d0 : W4.cell? ⟨w.heap.size, 0, none⟩ = some (.int .i64 a) := by rw [← hW4, sNew]; rfl
  have d1 : W4.cell? ⟨w.heap.size, 1, none⟩ = some (.int .i64 f) := by rw [← hW4, sNew]; rfl
  have d2 : W4.cell? ⟨w.heap.size, 2, none⟩ = some (.int .i64 v) := by rw [← hW4, sNew]; rfl
  have e0 : W5.cell? ⟨W4.heap.size, 0, none⟩ = some (.int .i64 a2) := by rw [← hW5, sNew]; rfl
  have e1 : W5.cell? ⟨W4.heap.size, 1, none⟩ = some (.int .i64 f2) := by rw [← hW5, sNew]; rfl
  have e2 : W5.cell? ⟨W4.heap.size, 2, none⟩ = some (.int .i64 v2) := by rw [← hW5, sNew]; rfl
  replace d0 := (h45.cell (p := ⟨w.heap.size, 0, none⟩) (World.block_lt_of_cell? _ _ d0)).trans d0
  replace d1 := (h45.cell (p := ⟨w.heap.size, 1, none⟩) (World.block_lt_of_cell? _ _ d1)).trans d1
  replace d2 := (h45.cell (p := ⟨w.heap.size, 2, none⟩) (World.block_lt_of_cell? _ _ d2)).trans d2
  rw [hx4] at e0 e1 e2
  have HB5 := Lib.hid (h04.trans (h45.mono h04.size))
  have HCE := Lib.hid (fun W (hb : Below W5.heap.size W5 W) => show (W.cell? ⟨w.heap.size, 0, none⟩ = some (.int .i64 a) ∧ W.cell? ⟨w.heap.size, 1, none⟩ = some (.int .i64 f) ∧ W.cell? ⟨w.heap.size, 2, none⟩ = some (.int .i64 v)) ∧ (W.cell? ⟨w.heap.size + 1, 0, none⟩ = some (.int .i64 a2) ∧ W.cell? ⟨w.heap.size + 1, 1, none⟩ = some (.int .i64 f2) ∧ W.cell? ⟨w.heap.size + 1, 2, none⟩ = some (.int .i64 v2)) from
    ⟨⟨(hb.cell (World.block_lt_of_cell? _ _ d0)).trans d0, (hb.cell (World.block_lt_of_cell? _ _ d1)).trans d1, (hb.cell (World.block_lt_of_cell? _ _ d2)).trans d2⟩, (hb.cell (World.block_lt_of_cell? _ _ e0)).trans e0, (hb.cell (World.block_lt_of_cell? _ _ e1)).trans e1, (hb.cell (World.block_lt_of_cell? _ _ e2)).trans e2⟩)
  rw [← hW4] at hW5
  clear h45 h04 hx4 d0 d1 d2 e0 e1 e2 hW4
  obtain ⟨⟨x0, x1, x2⟩, y0, y1, y2⟩ := HCE.out _ (Below.refl _ W5)
  go_enter Try.func25, Try.ntmps25
  go_wp2_with fail
  (try rw [hW5])
  clear hW5 x0 x1 x2 y0 y1 y2
  refine (C0.out _).mono ?_
  rintro e w1 ⟨rfl, hb⟩
  obtain ⟨⟨x0, x1, x2⟩, y0, y1, y2⟩ := HCE.out _ hb
  have HB1 := Lib.hid (HB5.out.trans (hb.mono HB5.out.size))
  have HL1 := Lib.hid hb
  clear hb C0
  cases G with
  | false =>
    obtain ⟨rfl, rfl⟩ := HNO.out (fun h => of_decide_eq_false HGE.out h.1)
    clear HNO HYES HGE HGE2 C1
    go_wp2_with fail
    refine bodyPost_ret (results_tmp2 rfl _ _ _) rfl ?_
    exact ⟨rfl, HB1.out⟩
  | true =>
  go_wp2_with fail
  refine (C1.out _).mono ?_
  rintro e w2 ⟨rfl, hb⟩
  have HB2 := Lib.hid (HB1.out.trans (hb.mono HB1.out.size))
  have HL2 := Lib.hid (HL1.out.trans (hb.mono HL1.out.size))
  clear hb C1 HB1 HL1 x0 x1 x2 y0 y1 y2
  cases G2 with
  | false =>
    obtain ⟨rfl, rfl⟩ := HNO.out (fun h => of_decide_eq_false HGE2.out h.2)
    clear HNO HYES HGE HGE2
    go_wp2_with fail
    refine bodyPost_ret (results_tmp2 rfl _ _ _) rfl ?_
    exact ⟨rfl, HB2.out⟩
  | true =>
  have hg := of_decide_eq_true HGE.out
  have hg2 := of_decide_eq_true HGE2.out
  obtain ⟨hz, rfl⟩ := HYES.out ⟨hg, hg2⟩
  have CF := Lib.hid (fun W => l11Flow_any a f v a2 f2 v2 W hg hg2)
  rw [← hz] at CF
  clear hz hg hg2 HNO HYES HGE HGE2
  obtain ⟨⟨x0, x1, x2⟩, y0, y1, y2⟩ := HCE.out _ HL2.out
  go_wp2_with fail
  refine (CF.out _).mono ?_
  rintro e w3 ⟨rfl, hb⟩
  have HB3 := Lib.hid (HB2.out.trans (hb.mono HB2.out.size))
  clear hb CF
  go_wp2_with fail
  refine bodyPost_ret (results_tmp2 rfl _ _ _) rfl ?_
  exact ⟨rfl, HB3.out⟩
set_option maxRecDepth 100000 in
set_option maxHeartbeats 2000000 in
theorem flowI_any (a f v a2 f2 v2 : Int) (w : World) (z : Int) (x : Bool) (hA : FloA ⟨a, f, v⟩ ⟨a2, f2, v2⟩ z x) :
    Calls Try.prog 23 #[.agg #[.int .i64 a, .int .i64 f, .int .i64 v], .agg #[.int .i64 a2, .int .i64 f2, .int .i64 v2]] w fun e w' => e = .returned (.tuple #[.int .i64 z, .bool x]) ∧ Below w.heap.size w w' := by
  have C0 := Lib.hid (fun W => isPool_any a f v W)
  have C1 := Lib.hid (fun W => isPool_any a2 f2 v2 W)
  have HNO := Lib.hid hA.2
  have HYES := Lib.hid hA.1
  obtain ⟨G, hG⟩ : ∃ G, decide (goodP ⟨a, f, v⟩) = G := ⟨_, rfl⟩
  obtain ⟨G2, hG2⟩ : ∃ G, decide (goodP ⟨a2, f2, v2⟩) = G := ⟨_, rfl⟩
  rw [hG] at C0
  rw [hG2] at C1
  have HGE := Lib.hid hG
  have HGE2 := Lib.hid hG2
  clear hA hG hG2
  obtain ⟨W4, hW4⟩ : ∃ W, World.alloc w (.cells #[.int .i64 a, .int .i64 f, .int .i64 v] 35) = W := ⟨_, rfl⟩
  obtain ⟨W5, hW5⟩ : ∃ W, World.alloc W4 (.cells #[.int .i64 a2, .int .i64 f2, .int .i64 v2] 35) = W := ⟨_, rfl⟩
  have h45 : Below W4.heap.size W4 W5 := by rw [← hW5]; exact below1 _ _
  have h04 : Below w.heap.size w W4 := by rw [← hW4]; exact below1 _ _
  have hx4 : W4.heap.size = w.heap.size + 1 := by rw [← hW4]; simp
  have d0 : W4.cell? ⟨w.heap.size, 0, none⟩ = some (.int .i64 a) := by rw [← hW4, sNew]; rfl
  have d1 : W4.cell? ⟨w.heap.size, 1, none⟩ = some (.int .i64 f) := by rw [← hW4, sNew]; rfl
  have d2 : W4.cell? ⟨w.heap.size, 2, none⟩ = some (.int .i64 v) := by rw [← hW4, sNew]; rfl
  have e0 : W5.cell? ⟨W4.heap.size, 0, none⟩ = some (.int .i64 a2) := by rw [← hW5, sNew]; rfl
  have e1 : W5.cell? ⟨W4.heap.size, 1, none⟩ = some (.int .i64 f2) := by rw [← hW5, sNew]; rfl
  have e2 : W5.cell? ⟨W4.heap.size, 2, none⟩ = some (.int .i64 v2) := by rw [← hW5, sNew]; rfl
  replace d0 := (h45.cell (p := ⟨w.heap.size, 0, none⟩) (World.block_lt_of_cell? _ _ d0)).trans d0
  replace d1 := (h45.cell (p := ⟨w.heap.size, 1, none⟩) (World.block_lt_of_cell? _ _ d1)).trans d1
  replace d2 := (h45.cell (p := ⟨w.heap.size, 2, none⟩) (World.block_lt_of_cell? _ _ d2)).trans d2
  rw [hx4] at e0 e1 e2
  have HB5 := Lib.hid (h04.trans (h45.mono h04.size))
  have HCE := Lib.hid (fun W (hb : Below W5.heap.size W5 W) => show (W.cell? ⟨w.heap.size, 0, none⟩ = some (.int .i64 a) ∧ W.cell? ⟨w.heap.size, 1, none⟩ = some (.int .i64 f) ∧ W.cell? ⟨w.heap.size, 2, none⟩ = some (.int .i64 v)) ∧ (W.cell? ⟨w.heap.size + 1, 0, none⟩ = some (.int .i64 a2) ∧ W.cell? ⟨w.heap.size + 1, 1, none⟩ = some (.int .i64 f2) ∧ W.cell? ⟨w.heap.size + 1, 2, none⟩ = some (.int .i64 v2)) from
    ⟨⟨(hb.cell (World.block_lt_of_cell? _ _ d0)).trans d0, (hb.cell (World.block_lt_of_cell? _ _ d1)).trans d1, (hb.cell (World.block_lt_of_cell? _ _ d2)).trans d2⟩, (hb.cell (World.block_lt_of_cell? _ _ e0)).trans e0, (hb.cell (World.block_lt_of_cell? _ _ e1)).trans e1, (hb.cell (World.block_lt_of_cell? _ _ e2)).trans e2⟩)
  rw [← hW4] at hW5
  clear h45 h04 hx4 d0 d1 d2 e0 e1 e2 hW4
  obtain ⟨⟨x0, x1, x2⟩, y0, y1, y2⟩ := HCE.out _ (Below.refl _ W5)
  go_enter Try.func23, Try.ntmps23
  go_wp2_with fail
  (try rw [hW5])
  clear hW5 x0 x1 x2 y0 y1 y2
  refine (C0.out _).mono ?_
  rintro e w1 ⟨rfl, hb⟩
  obtain ⟨⟨x0, x1, x2⟩, y0, y1, y2⟩ := HCE.out _ hb
  have HB1 := Lib.hid (HB5.out.trans (hb.mono HB5.out.size))
  have HL1 := Lib.hid hb
  clear hb C0
  cases G with
  | false =>
    obtain ⟨rfl, rfl⟩ := HNO.out (fun h => of_decide_eq_false HGE.out h.1)
    clear HNO HYES HGE HGE2 C1
    go_wp2_with fail
    refine bodyPost_ret (results_tmp2 rfl _ _ _) rfl ?_
    exact ⟨rfl, HB1.out⟩
  | true =>
  go_wp2_with fail
  refine (C1.out _).mono ?_
  rintro e w2 ⟨rfl, hb⟩
  have HB2 := Lib.hid (HB1.out.trans (hb.mono HB1.out.size))
  have HL2 := Lib.hid (HL1.out.trans (hb.mono HL1.out.size))
  clear hb C1 HB1 HL1 x0 x1 x2 y0 y1 y2
  cases G2 with
  | false =>
    obtain ⟨rfl, rfl⟩ := HNO.out (fun h => of_decide_eq_false HGE2.out h.2)
    clear HNO HYES HGE HGE2
    go_wp2_with fail
    refine bodyPost_ret (results_tmp2 rfl _ _ _) rfl ?_
    exact ⟨rfl, HB2.out⟩
  | true =>
  have hg := of_decide_eq_true HGE.out
  have hg2 := of_decide_eq_true HGE2.out
  obtain ⟨hz, rfl⟩ := HYES.out ⟨hg, hg2⟩
  have CA := Lib.hid (fun W => ltaI_any a f v W hg)
  have CB := Lib.hid (fun W => ltaI_any a2 f2 v2 W hg2)
  have p1 := pr_bd hg hg2
  have p2 := pr_bd hg2 hg
  have HE : Hid (z = min v (max (hgt ⟨a, f, v⟩ * a2 - hgt ⟨a2, f2, v2⟩ * a) 0 / (a + a2))) := Lib.hid hz
  obtain ⟨⟨g1, g2⟩, -, g5, g6⟩ := hg
  obtain ⟨⟨k1, k2⟩, -, k5, k6⟩ := hg2
  dsimp only at g1 g2 g5 g6 k1 k2 k5 k6 p1 p2
  clear hz HNO HYES HGE HGE2
  generalize hgt ⟨a, f, v⟩ = z1 at *
  generalize hgt ⟨a2, f2, v2⟩ = z2 at *
  obtain ⟨p11, p12⟩ := p1
  obtain ⟨p21, p22⟩ := p2
  obtain ⟨⟨x0, x1, x2⟩, y0, y1, y2⟩ := HCE.out _ HL2.out
  have X0 := fun (d : Nat) (os : Array Obj) => cell_regrown x0 d os
  have X1 := fun (d : Nat) (os : Array Obj) => cell_regrown x1 d os
  have X2 := fun (d : Nat) (os : Array Obj) => cell_regrown x2 d os
  have Y0 := fun (d : Nat) (os : Array Obj) => cell_regrown y0 d os
  have Y1 := fun (d : Nat) (os : Array Obj) => cell_regrown y1 d os
  have Y2 := fun (d : Nat) (os : Array Obj) => cell_regrown y2 d os
  have k1' := fun (d : Nat) (os : Array Obj) => Calls.regrown_of (w := w2) (d := d) (os := os) (CA.out _)
  have k2' := fun (d : Nat) (os : Array Obj) => Calls.regrown_of (w := w2) (d := d) (os := os) (CB.out _)
  clear x0 x1 x2 y0 y1 y2
  go_wp2_with fail
  refine wp_region_quiet_below (by kernel_rfl) (by kernel_rfl) ?_
  repeat (go_big_quiet_step (first | (go_at_call_of 62 (Value.int .i64 f); exact k1' _ _) | (go_at_call_of 62 (Value.int .i64 f2); exact k2' _ _)))
  refine wpQuiet_nil ?_
  intro _ hw'
  obtain ⟨⟨dq, osq⟩, hw''⟩ := hw'
  subst hw''
  have HB6 := Lib.hid (HB2.out.trans ((below_regrown w2 dq osq).mono HB2.out.size))
  clear X0 X1 X2 Y0 Y1 Y2 k1' k2' CA CB
  have hlow := HL2.out.trans ((below_regrown w2 dq osq).mono HL2.out.size)
  obtain ⟨W6, hW6⟩ : ∃ W, grow (redrawn w2 dq) osq = W := ⟨_, rfl⟩
  rw [hW6] at HB6 hlow
  try simp only [hW6]
  clear hW6
  have hx1 : z1 * a2 - z2 * a ≤ 30000000 := by omega
  have hx2 : -30000000 ≤ z1 * a2 - z2 * a := by omega
  generalize z1 * a2 - z2 * a = X at *
  have hd := div_bdP (x := max X 0) (X := 30000000) (y := a + a2) (by omega) (by omega)
  obtain ⟨hd1, hd2⟩ := hd
  have hm0 : 0 ≤ max X 0 := by omega
  have hm1 : max X 0 ≤ 30000000 := by omega
  obtain ⟨⟨x0, x1, x2⟩, y0, y1, y2⟩ := HCE.out _ hlow
  have X0 := fun (d : Nat) (os : Array Obj) => cell_regrown x0 d os
  have X1 := fun (d : Nat) (os : Array Obj) => cell_regrown x1 d os
  have X2 := fun (d : Nat) (os : Array Obj) => cell_regrown x2 d os
  have Y0 := fun (d : Nat) (os : Array Obj) => cell_regrown y0 d os
  have Y1 := fun (d : Nat) (os : Array Obj) => cell_regrown y1 d os
  have Y2 := fun (d : Nat) (os : Array Obj) => cell_regrown y2 d os
  have hs : 0 < a + a2 := by omega
  have hs2 : a + a2 ≤ 200 := by omega
  clear x0 x1 x2 y0 y1 y2 hlow HCE
  go_wp2_with fail
  refine wp_region_quiet_below (by kernel_rfl) (by kernel_rfl) ?_
  repeat (go_big_quiet_step (first | fail))
  refine wpQuiet_nil ?_
  intro _ hw'
  obtain ⟨⟨dq, osq⟩, hw''⟩ := hw'
  subst hw''
  have HB7 := Lib.hid (HB6.out.trans ((below_regrown W6 dq osq).mono HB6.out.size))
  clear X0 X1 X2 Y0 Y1 Y2
  go_wp2_with fail
  refine bodyPost_ret (results_tmp2 rfl _ _ _) rfl ?_
  exact ⟨by rw [HE.out]; rfl, HB7.out⟩
end Go.Proofs.Ytgnopkemcgbedaa
