/- Chapter 6: jumps in a series: the model and the program. -/
import Derived.Test.YteeljlpbijmhlaaSeC
namespace Go.Proofs.Yteeljlpbijmhlaa
open Go.RowKit Go.PlainAid Go.Sort
set_option linter.unusedVariables false
set_option linter.unusedSimpArgs false

/-- Integers in memory. -/
structure IsI6 (w : World) (B : Nat) (A : Option Addr) (n : Nat) (zs : List Int) : Prop where
  len : zs.length = n
  has : Has w B A (zs.map (.int .i64))
  low : B ≤ w.heap.size
theorem IsI6.below {w w' : World} {B C n : Nat} {A : Option Addr} {zs : List Int} (h : IsI6 w B A n zs) (hb : Below C w w') (hC : B ≤ C) : IsI6 w' B A n zs :=
  ⟨h.len, h.has.below (hb.mono hC), Nat.le_trans h.low hb.size⟩
theorem IsI6.at {w : World} {B n : Nat} {A : Option Addr} {zs : List Int} (h : IsI6 w B A n zs) {k : Nat} (hk : k < n) :
    ∃ a, A = some a ∧ a.block < B ∧ w.cell? (a.add k) = some (.int .i64 (zs.getD k 0)) := intGet h.has (by rw [h.len]; exact hk)
theorem IsI6.cut {w : World} {B n : Nat} {a : Addr} {zs : List Int} (h : IsI6 w B (some a) n zs) (i m : Nat) (hm : i + m ≤ n) : IsI6 w B (some (a.add i)) m ((zs.drop i).take m) := by
  refine ⟨by rw [List.length_take, List.length_drop, h.len]; omega, ?_, h.low⟩
  have := has_take (has_drop h.has i) m
  rwa [← List.map_drop, ← List.map_take] at this
theorem allL_cut {zs : List Int} (h : serS zs) (i m : Nat) : allL ((zs.drop i).take m) := fun z hz => h.1 z ((List.take_subset _ _ |>.trans (List.drop_subset _ _)) hz)

set_option maxHeartbeats 1000000 in
theorem jumpS_any (A : Option Addr) (n c B : Nat) (zs : List Int) (q m : Int) (x : Bool) (hA : JmpA zs q m x) (w : World) (hn : zs.length = n) (hm : n ≤ 1048576) (hB : B ≤ w.heap.size) (h : Has w B A (zs.map (.int .i64))) :
    Calls Try.prog 33 #[.slice A n c, .int .i64 q] w fun e w' => e = .returned (.tuple #[.int .i64 m, .bool x]) ∧ Below w.heap.size w w' := by
  have C1 := Lib.hid (l6Series_any A n c B zs w hn hm h)
  have C2 := Lib.hid (fun W => l6Level_any q W)
  have HI := Lib.hid (show IsI6 w B A n zs from ⟨hn, h, hB⟩)
  have HA := Lib.hid hA
  have HY : Hid (decide (serS zs) = true → decide (0 ≤ q ∧ q ≤ 2000) = true → serS zs ∧ 0 ≤ q ∧ q ≤ 2000) := Lib.hid (fun h1 h2 => ⟨of_decide_eq_true h1, of_decide_eq_true h2⟩)
  have HN : Hid ((decide (serS zs) = false ∨ decide (0 ≤ q ∧ q ≤ 2000) = false) → m = 0 ∧ x = false) := Lib.hid (fun g => jmpA_miss hA (.inl (fun e => by
    rcases g with g | g
    · exact of_decide_eq_false g e.1
    · exact of_decide_eq_false g e.2)))
  generalize decide (serS zs) = b1 at C1 HY HN
  generalize decide (0 ≤ q ∧ q ≤ 2000) = b2 at C2 HY HN
  clear h hA hn
  go_enter Try.func33, Try.ntmps33
  go_wp2_with fail
  refine C1.out.mono ?_
  rintro e w1 ⟨rfl, rfl⟩
  cases b1 with
  | false =>
    obtain ⟨rfl, rfl⟩ := HN.out (by simp)
    go_wp2_with fail
    refine bodyPost_ret (results_tmp2 rfl _ _ _) rfl ?_
    exact ⟨rfl, Below.refl _ _⟩
  | true =>
  go_wp2_with fail
  refine (C2.out _).mono ?_
  rintro e w1 ⟨rfl, rfl⟩
  cases b2 with
  | false =>
    obtain ⟨rfl, rfl⟩ := HN.out (by simp)
    go_wp2_with fail
    refine bodyPost_ret (results_tmp2 rfl _ _ _) rfl ?_
    exact ⟨rfl, Below.refl _ _⟩
  | true =>
  have HG := Lib.hid (HY.out (by simp) (by simp))
  clear HY HN C1 C2
  go_wp2_with fail
  go_loopw [6] (fun i wr => ∃ k : Nat, 1 ≤ k ∧ (k ≤ n ∨ k = 1) ∧ i = .int .i64 k ∧ Hid (∀ j, j < k → ¬ jmpAt zs q j) ∧ Below w.heap.size w wr) (fun i _ => n + 1 - (intOf i).toNat)
  case atStart => exact ⟨1, Nat.le_refl _, .inr rfl, rfl, Lib.hid (fun j hj hc => by have := hc.1; omega), Below.refl _ _⟩
  case round =>
    obtain ⟨k, hk1, hk, rfl, hno, hb⟩ := hrel
    have HB := Lib.hid hb
    by_cases hlt : k < n
    · obtain ⟨p, rfl⟩ : ∃ p, k = p + 1 := ⟨k - 1, by omega⟩
      obtain ⟨a, ha, hab, e1⟩ := (HI.out.below hb HI.out.low).at hlt
      obtain ⟨a', ha', -, e0⟩ := (HI.out.below hb HI.out.low).at (k := p) (by omega)
      subst ha
      injection ha' with ha'; subst ha'
      rw [addFormS _ _ (by omega)] at e1
      have r1 := serS_getD HG.out.1 (p + 1)
      have r0 := serS_getD HG.out.1 p
      have HJ : Hid (jmpAt zs q (p + 1) ↔ q < max (zs.getD p 0 - zs.getD (p + 1) 0) (zs.getD (p + 1) 0 - zs.getD p 0)) := Lib.hid ⟨fun h => h.2.2, fun h => ⟨by omega, by rw [HI.out.len]; exact hlt, h⟩⟩
      generalize zs.getD (p + 1) 0 = z1 at e1 r1 HJ
      generalize zs.getD p 0 = z0 at e0 r0 HJ
      have E0 := fun (d : Nat) (os : Array Obj) => cell_regrown e0 d os
      have E1 := fun (d : Nat) (os : Array Obj) => cell_regrown e1 d os
      have c1 := fun (dr : Nat) (os : Array Obj) => Calls.regrown_of (w := wr) (d := dr) (os := os) (toBelow6 (l6Far_any z0 z1 r0 r1 _))
      have hp0 : (0 : Int) ≤ (p : Int) := by omega
      have hp1 : (p : Int) + 1 < (n : Int) := by omega
      clear e0 e1 hb
      by_cases hj : q < max (z0 - z1) (z1 - z0)
      · obtain ⟨hme, rfl⟩ := jmpA_hit HA.out HG.out.1 HG.out.2 (HJ.out.2 hj) hno.out
        have hdj : decide (q < max (z0 - z1) (z1 - z0)) = true := decide_eq_true hj
        subst hme
        clear HA HJ hno r0 r1
        generalize max (z0 - z1) (z1 - z0) = d at c1 hdj hj
        go_wp2_with fail
        refine wp_region_quiet_below (by kernel_rfl) (by kernel_rfl) ?_
        repeat (go_big_quiet_step (first | exact c1 _ _))
        refine wpQuiet_nil ?_
        intro _ hw'
        obtain ⟨⟨dq, osq⟩, hw''⟩ := hw'
        subst hw''
        have HB1 := Lib.hid (HB.out.trans ((below_regrown wr dq osq).mono HB.out.size))
        clear E0 E1 c1 HB
        go_wp2_with fail
        refine bodyPost_ret (results_tmp2 rfl _ _ _) rfl ?_
        exact ⟨by first | rfl | simp, HB1.out⟩
      · have hdj : decide (q < max (z0 - z1) (z1 - z0)) = false := decide_eq_false hj
        have HS : Hid (∀ j, j < p + 1 + 1 → ¬ jmpAt zs q j) := Lib.hid (fun j hj2 => by
          rcases Nat.lt_succ_iff_lt_or_eq.1 hj2 with h1 | rfl
          · exact hno.out j h1
          · exact fun h => hj (HJ.out.1 h))
        clear HJ hno r0 r1
        generalize max (z0 - z1) (z1 - z0) = d at c1 hdj hj
        go_wp2_with fail
        refine wp_region_quiet_below (by kernel_rfl) (by kernel_rfl) ?_
        repeat (go_big_quiet_step (first | exact c1 _ _))
        refine wpQuiet_nil ?_
        intro _ hw'
        obtain ⟨⟨dq, osq⟩, hw''⟩ := hw'
        subst hw''
        have HB1 := Lib.hid (HB.out.trans ((below_regrown wr dq osq).mono HB.out.size))
        clear E0 E1 c1 HB
        go_wp2_with fail
        go_roundw
        case rel => exact ⟨p + 1 + 1, by omega, by omega, by go_num, HS, HB1.out⟩
        case measure => simp [intOf]; omega
    · obtain ⟨rfl, rfl⟩ := jmpA_miss HA.out (.inr (fun j hj => hno.out j (by rw [HI.out.len] at hj; omega)))
      have hkn : ¬ ((k : Int) < (n : Int)) := by omega
      clear hb HA hno HI HG
      go_wp2_with fail
      refine bodyPost_ret (results_tmp2 rfl _ _ _) rfl ?_
      exact ⟨rfl, HB.out⟩

set_option maxHeartbeats 1000000 in
theorem jumpI_any (A : Option Addr) (n c B : Nat) (hc : n ≤ c) (zs : List Int) (q m : Int) (x : Bool) (hA : JmpA zs q m x) (w : World) (hn : zs.length = n) (hm : n ≤ 1048576) (hB : B ≤ w.heap.size) (h : Has w B A (zs.map (.int .i64))) :
    Calls Try.prog 34 #[.slice A n c, .int .i64 q] w fun e w' => e = .returned (.tuple #[.int .i64 m, .bool x]) ∧ w = w' := by
  have C1 := Lib.hid (isSeries_any A n c B zs w hn hm h)
  have C2 := Lib.hid (fun W => inRange_any q 0 2000 W)
  have HI := Lib.hid (show IsI6 w B A n zs from ⟨hn, h, hB⟩)
  have HA := Lib.hid hA
  have HY : Hid (decide (serS zs) = true → decide (0 ≤ q ∧ q ≤ 2000) = true → serS zs ∧ 0 ≤ q ∧ q ≤ 2000) := Lib.hid (fun h1 h2 => ⟨of_decide_eq_true h1, of_decide_eq_true h2⟩)
  have HN : Hid ((decide (serS zs) = false ∨ decide (0 ≤ q ∧ q ≤ 2000) = false) → m = 0 ∧ x = false) := Lib.hid (fun g => jmpA_miss hA (.inl (fun e => by
    rcases g with g | g
    · exact of_decide_eq_false g e.1
    · exact of_decide_eq_false g e.2)))
  generalize decide (serS zs) = b1 at C1 HY HN
  generalize decide (0 ≤ q ∧ q ≤ 2000) = b2 at C2 HY HN
  clear h hA hn
  go_enter Try.func34, Try.ntmps34
  go_wp2_with fail
  refine C1.out.mono ?_
  rintro e w1 ⟨rfl, rfl⟩
  cases b1 with
  | false =>
    obtain ⟨rfl, rfl⟩ := HN.out (by simp)
    go_wp2_with fail
    refine bodyPost_ret (results_tmp2 rfl _ _ _) rfl ?_
    exact ⟨rfl, rfl⟩
  | true =>
  go_wp2_with fail
  refine (C2.out _).mono ?_
  rintro e w1 ⟨rfl, rfl⟩
  cases b2 with
  | false =>
    obtain ⟨rfl, rfl⟩ := HN.out (by simp)
    go_wp2_with fail
    refine bodyPost_ret (results_tmp2 rfl _ _ _) rfl ?_
    exact ⟨rfl, rfl⟩
  | true =>
  have HG := Lib.hid (HY.out (by simp) (by simp))
  clear HY HN C1 C2
  go_wp2_with fail
  go_loop [6] (fun i => ∃ k : Nat, 1 ≤ k ∧ (k ≤ n ∨ k = 1) ∧ i = .int .i64 k ∧ Hid (∀ j, j < k → ¬ jmpAt zs q j)) (fun i => n + 1 - (intOf i).toNat)
  case atStart => exact ⟨1, Nat.le_refl _, .inr rfl, rfl, Lib.hid (fun j hj hc => by have := hc.1; omega)⟩
  case round =>
    obtain ⟨k, hk1, hk, rfl, hno⟩ := hrel
    by_cases hlt : k < n
    · obtain ⟨p, rfl⟩ : ∃ p, k = p + 1 := ⟨k - 1, by omega⟩
      obtain ⟨a, ha, hab, e1⟩ := HI.out.at hlt
      subst ha
      have hcut := HI.out.cut p 2 (by omega)
      have hl2 : p + 1 < zs.length := by rw [HI.out.len]; exact hlt
      have e2 : (zs.drop p).take 2 = [zs.getD p 0, zs.getD (p + 1) 0] := by
        have g0 : zs.getD p 0 = zs[p] := by simp [List.getD_eq_getElem?_getD, show p < zs.length by omega]
        have g1 : zs.getD (p + 1) 0 = zs[p + 1] := by simp [List.getD_eq_getElem?_getD, hl2]
        rw [g0, g1, List.drop_eq_getElem_cons (by omega), List.drop_eq_getElem_cons hl2]
        rfl
      have ha2 := allL_cut HG.out.1 p 2
      rw [e2] at hcut ha2
      have HJ : Hid (jmpAt zs q (p + 1) ↔ q < sprd [zs.getD p 0, zs.getD (p + 1) 0]) := Lib.hid (by rw [sprd_two]; exact ⟨fun h => h.2.2, fun h => ⟨by omega, hl2, h⟩⟩)
      have CS := Lib.hid (fun c' => spread_any (some (a.add p)) 2 c' B _ w hcut.len (by omega) (by omega) ha2 hcut.has)
      generalize sprd [zs.getD p 0, zs.getD (p + 1) 0] = d at HJ CS
      have hp0 : (0 : Int) ≤ (p : Int) := by omega
      have hp1 : (p : Int) + 1 < (n : Int) := by omega
      have hp2 : (p : Int) + 2 ≤ (c : Int) := by omega
      clear hcut ha2 e2 e1
      by_cases hj : q < d
      · obtain ⟨hme, rfl⟩ := jmpA_hit HA.out HG.out.1 HG.out.2 (HJ.out.2 hj) hno.out
        subst hme
        clear HA HJ hno HG HI
        go_wp2_with fail
        simp only [show p + 1 + 1 - p = 2 by omega]
        refine (CS.out _).mono ?_
        rintro e w1 ⟨rfl, rfl⟩
        go_wp2_with fail
        refine bodyPost_ret (results_tmp2 rfl _ _ _) rfl ?_
        exact ⟨by first | rfl | simp, rfl⟩
      · have HS : Hid (∀ j, j < p + 1 + 1 → ¬ jmpAt zs q j) := Lib.hid (fun j hj2 => by
          rcases Nat.lt_succ_iff_lt_or_eq.1 hj2 with h1 | rfl
          · exact hno.out j h1
          · exact fun h => hj (HJ.out.1 h))
        clear HJ hno HI
        go_wp2_with fail
        simp only [show p + 1 + 1 - p = 2 by omega]
        refine (CS.out _).mono ?_
        rintro e w1 ⟨rfl, rfl⟩
        go_wp2_with fail
        go_round
        case rel => exact ⟨p + 1 + 1, by omega, by omega, by go_num, HS⟩
        case measure => simp [intOf]; omega
    · obtain ⟨rfl, rfl⟩ := jmpA_miss HA.out (.inr (fun j hj => hno.out j (by rw [HI.out.len] at hj; omega)))
      have hkn : ¬ ((k : Int) < (n : Int)) := by omega
      clear HA hno HI HG
      go_wp2_with fail
      refine bodyPost_ret (results_tmp2 rfl _ _ _) rfl ?_
      exact ⟨rfl, rfl⟩
end Go.Proofs.Yteeljlpbijmhlaa
