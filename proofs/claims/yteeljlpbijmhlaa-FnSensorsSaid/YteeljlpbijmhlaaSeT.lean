/- Chapter 6, the program: an insertion sort of three levels; MedianOf of both sides. -/
import Derived.Test.YteeljlpbijmhlaaSeS
import Derived.Test.YteeljlpbijmhlaaSeC
import Derived.StillTailTactics
namespace Go.Proofs.Yteeljlpbijmhlaa
open Go.RowKit Go.PlainAid Go.Sort
set_option linter.unusedVariables false
set_option linter.unusedSimpArgs false

set_option maxHeartbeats 400000 in
theorem isNaN6_any (x : Int) (w : World) : Calls Try.prog 119 #[.int .i64 x] w fun e w' => e = .returned (.bool false) ∧ w = w' := by
  have h : (x != x) = false := by simp
  go_enter Try.func119, Try.ntmps119
  go_wp2
  go_ret
  exact ⟨rfl, rfl⟩
set_option maxHeartbeats 400000 in
theorem less6_any (x y : Int) (w : World) : Calls Try.prog 109 #[.int .i64 x, .int .i64 y] w fun e w' => e = .returned (.bool (decide (x < y))) ∧ w = w' := by
  have C := Lib.hid (fun z W => isNaN6_any z W)
  have hd : ∃ b, decide (x < y) = b := ⟨_, rfl⟩
  go_enter Try.func109, Try.ntmps109
  go_wp2_with fail
  refine (C.out _ _).mono ?_
  rintro e w1 ⟨rfl, rfl⟩
  go_wp2_with fail
  try (refine (C.out _ _).mono ?_; rintro e w1 ⟨rfl, rfl⟩; go_wp2_with fail)
  go_ret
  exact ⟨rfl, rfl⟩

theorem grownDrew (w : World) (r : Option Nat) : w.grownBy w.drew r := ⟨rfl, rfl, rfl, Nat.le_refl _, fun _ _ _ => rfl⟩
theorem own_reg {w : World} {base n c g : Nat} {xs : List Value} (h : w.ownsRow base 3 1 (.slice (some ⟨g, 0, none⟩) n c) n xs) (dq : Nat) (osq : Array Obj) : (grow (redrawn w dq) osq).ownsRow base 3 1 (.slice (some ⟨g, 0, none⟩) n c) n xs :=
  h.kept (grownBelow (below_regrown w dq osq) none) (.inr (by simp [Value.ownBlock]))
theorem grown_reg {w wr : World} {r : Option Nat} (h : w.grownBy wr r) (dq : Nat) (osq : Array Obj) : w.grownBy (grow (redrawn wr dq) osq) r :=
  h.trans (grownBelow (below_regrown wr dq osq) r)
theorem own_at6 {w : World} {base n c g : Nat} {ys : List Int} (h : w.ownsRow base 3 1 (.slice (some ⟨g, 0, none⟩) n c) n (ys.map (.int .i64))) (hl : ys.length = n) {k : Nat} (hk : k < n) : w.cell? ⟨g, k, none⟩ = some (.int .i64 (ys.getD k 0)) := by
  rw [h.cellAt k (by omega)]
  simp [List.getD_eq_getElem?_getD, hl, hk]
set_option maxHeartbeats 2000000 in
theorem ins6_any (g n c base : Nat) (zs : List Int) (w : World) (hn : zs.length = n) (h12 : n ≤ 12) (hown : w.ownsRow base 3 1 (.slice (some ⟨g, 0, none⟩) n c) n (zs.map (.int .i64))) :
    Calls Try.prog 103 #[.slice (some ⟨g, 0, none⟩) n c, .int .i64 0, .int .i64 n] w fun e w' => (∃ v, e = .returned v) ∧
      ∃ ys : List Int, ys.Perm zs ∧ AscK ys n ∧ w'.ownsRow base 3 1 (.slice (some ⟨g, 0, none⟩) n c) n (ys.map (.int .i64)) ∧ w.grownBy w' (some g) := by
  have CL := Lib.hid (fun x y W => toBelow6 (less6_any x y W))
  have HL := Lib.hid hn
  have HO := Lib.hid hown
  clear hown hn
  go_enter Try.func103, Try.ntmps103
  go_wp2_with fail
  go_loopw [6] (fun i wr => ∃ k : Nat, 1 ≤ k ∧ (k ≤ n ∨ k = 1) ∧ i = .int .i64 k ∧ ∃ ys : List Int, Hid (ys.length = n ∧ ys.Perm zs ∧ AscK ys k) ∧ Hid (wr.ownsRow base 3 1 (.slice (some ⟨g, 0, none⟩) n c) n (ys.map (.int .i64))) ∧ w.grownBy wr (some g)) (fun i _ => n + 1 - (intOf i).toNat)
  case atStart => exact ⟨1, Nat.le_refl _, .inr rfl, rfl, zs, Lib.hid ⟨HL.out, List.Perm.refl _, fun p q h1 h2 => by omega⟩, HO, World.grownBy.refl _ _⟩
  case round =>
    obtain ⟨k, hk1, hk, rfl, ys, hys, hown, hgr⟩ := hrel
    by_cases hlt : k < n
    · have hk0 : (0 : Int) ≤ (k : Int) := by omega
      have hkn : (k : Int) < (n : Int) := by omega
      go_wp2_with fail
      generalize wr = wo at *
      go_loopw [7] (fun j wr => ∃ q : Nat, q ≤ k ∧ j = .int .i64 q ∧ ∃ ys : List Int, Hid (ys.length = n ∧ ys.Perm zs ∧ AscBut ys k q) ∧ Hid (wr.ownsRow base 3 1 (.slice (some ⟨g, 0, none⟩) n c) n (ys.map (.int .i64))) ∧ w.grownBy wr (some g)) (fun j _ => (intOf j).toNat)
      case atStart => exact ⟨k, Nat.le_refl _, rfl, ys, Lib.hid ⟨hys.out.1, hys.out.2.1, ascBut_start hys.out.2.2⟩, hown, hgr⟩
      case round =>
        clear hys hown hgr
        obtain ⟨q, hq, rfl, ys, hys, hown, hgr⟩ := hrel
        have HG := Lib.hid hgr
        clear hgr HO
        rcases Nat.eq_zero_or_pos q with h0 | h0
        · subst h0
          have HA : Hid (AscK ys (k + 1)) := Lib.hid (ascBut_end hys.out.2.2 hq (.inl rfl))
          have HB0 := Lib.hid (Below.refl wr.heap.size wr)
          go_wp2_with fail
          refine wp_region_quiet_below (by kernel_rfl) (by kernel_rfl) ?_
          repeat (go_big_quiet_step (first | fail))
          refine wpQuiet_nil ?_
          intro _ hw'
          obtain ⟨⟨dq, osq⟩, hw''⟩ := hw'
          subst hw''
          have HB1 := Lib.hid (HB0.out.trans ((below_regrown wr dq osq).mono HB0.out.size))
          have HO1 := Lib.hid (own_reg hown.out dq osq)
          have HG1 := Lib.hid (grown_reg HG.out dq osq)
          generalize grow (redrawn wr dq) osq = W1 at HO1 HG1 ⊢
          clear hown HG HB1 HB0
          go_wp2_with fail
          go_roundw
          case rel => exact ⟨k + 1, by omega, .inl (by omega), by go_num, ys, Lib.hid ⟨hys.out.1, hys.out.2.1, HA.out⟩, HO1, HG1.out⟩
          case measure => simp [intOf]; omega
        · obtain ⟨p, rfl⟩ : ∃ p, q = p + 1 := ⟨q - 1, by omega⟩
          have e1 := own_at6 hown.out hys.out.1 (k := p + 1) (by omega)
          have e0 := own_at6 hown.out hys.out.1 (k := p) (by omega)
          have HSW : Hid (ys.getD (p + 1) 0 < ys.getD p 0 → AscBut (swp ys (p + 1)) k p ∧ (swp ys (p + 1)).Perm zs) := Lib.hid (fun h => ⟨ascBut_swp hys.out.2.2 (by omega) hq (by rw [hys.out.1]; omega) h, (swp_perm (by omega) (by rw [hys.out.1]; omega)).trans hys.out.2.1⟩)
          have HST : Hid (¬ ys.getD (p + 1) 0 < ys.getD p 0 → AscK ys (k + 1)) := Lib.hid (fun h => ascBut_end hys.out.2.2 hq (.inr (by rw [Nat.add_sub_cancel]; omega)))
          have HSS : Hid (swp ys (p + 1) = (ys.set (p + 1) (ys.getD p 0)).set p (ys.getD (p + 1) 0)) := Lib.hid rfl
          generalize ys.getD (p + 1) 0 = z1 at e1 HSW HST HSS
          generalize ys.getD p 0 = z0 at e0 HSW HST HSS
          have hp0 : (0 : Int) ≤ (p : Int) := by omega
          have hp1 : (p : Int) + 1 < (n : Int) := by omega
          have hp2 : (p : Int) + 1 > 0 := by omega
          have E0 := fun (d : Nat) (os : Array Obj) => cell_regrown e0 d os
          have E1 := fun (d : Nat) (os : Array Obj) => cell_regrown e1 d os
          have c1 := fun (dr : Nat) (os : Array Obj) => Calls.regrown_of (w := wr) (d := dr) (os := os) (CL.out z1 z0 _)
          have HB0 := Lib.hid (Below.refl wr.heap.size wr)
          clear h0 CL
          by_cases hz : z1 < z0
          · have HS := Lib.hid (HSW.out hz)
            rw [decide_eq_true hz] at c1
            clear HSW HST
            go_wp2_with fail
            refine wp_region_quiet_below (by kernel_rfl) (by kernel_rfl) ?_
            repeat (go_big_quiet_step (first | exact c1 _ _))
            refine wpQuiet_nil ?_
            intro _ hw'
            obtain ⟨⟨dq, osq⟩, hw''⟩ := hw'
            subst hw''
            have HB1 := Lib.hid (HB0.out.trans ((below_regrown wr dq osq).mono HB0.out.size))
            have HO1 := Lib.hid (own_reg hown.out dq osq)
            have HG1 := Lib.hid (grown_reg HG.out dq osq)
            have e2 := E0 dq osq
            have e3 := E1 dq osq
            generalize grow (redrawn wr dq) osq = W1 at HO1 HG1 e2 e3 ⊢
            clear hown HG HB1 HB0 e0 e1 E0 E1 c1
            go_wp2_with fail
            have hf0 := HO1.out.frozenAt p
            have hf1 := HO1.out.frozenAt (p + 1)
            go_region
            all_goals go_wp2
            have s1 := HO1.out.stored (p + 1) (.int .i64 z0)
            have s2 := s1.1.stored p (.int .i64 z1)
            refine ⟨⟨p, by omega, rfl, swp ys (p + 1), Lib.hid ⟨by rw [swp_len]; exact hys.out.1, HS.out.2, HS.out.1⟩, Lib.hid ?_, ?_⟩, by simp [intOf]⟩
            · rw [HSS.out, List.map_set, List.map_set]
              exact s2.1
            · exact HG1.out.trans ((s1.2.trans s2.2).trans (grownDrew _ _))
          · have HS := Lib.hid (HST.out hz)
            rw [decide_eq_false hz] at c1
            clear HSW HST HSS
            go_wp2_with fail
            refine wp_region_quiet_below (by kernel_rfl) (by kernel_rfl) ?_
            repeat (go_big_quiet_step (first | exact c1 _ _))
            refine wpQuiet_nil ?_
            intro _ hw'
            obtain ⟨⟨dq, osq⟩, hw''⟩ := hw'
            subst hw''
            have HB1 := Lib.hid (HB0.out.trans ((below_regrown wr dq osq).mono HB0.out.size))
            have HO1 := Lib.hid (own_reg hown.out dq osq)
            have HG1 := Lib.hid (grown_reg HG.out dq osq)
            generalize grow (redrawn wr dq) osq = W1 at HO1 HG1 ⊢
            clear hown HG HB1 HB0 e0 e1 E0 E1 c1
            go_wp2_with fail
            go_roundw
            case rel => exact ⟨k + 1, by omega, .inl (by omega), by go_num, ys, Lib.hid ⟨hys.out.1, hys.out.2.1, HS.out⟩, HO1, HG1.out⟩
            case measure => simp [intOf]; omega
    · have hkn : ¬ ((k : Int) < (n : Int)) := by omega
      have HA : Hid (AscK ys n) := Lib.hid (fun p q h1 h2 => hys.out.2.2 p q h1 (by omega))
      clear CL
      go_wp2_with fail
      go_end0
      exact ⟨⟨_, rfl⟩, ys, hys.out.2.1, HA.out, hown.out, hgr⟩

set_option maxRecDepth 100000 in
set_option maxHeartbeats 1000000 in
theorem len64_any (w : World) : Calls Try.prog 113 #[.int .u64 3] w fun e w' => e = .returned (.int .i64 2) ∧ w = w' := by
  go_enter Try.func113, Try.ntmps113
  go_wp2
  refine bodyPost_ret (results_tmp rfl _ _ _) rfl ?_
  exact ⟨ret_int (by decide +kernel), rfl⟩
set_option maxHeartbeats 1000000 in
theorem len6_any (w : World) : Calls Try.prog 102 #[.int .u64 3] w fun e w' => e = .returned (.int .i64 2) ∧ w = w' := by
  have C := Lib.hid (fun W => len64_any W)
  go_enter Try.func102, Try.ntmps102
  go_wp2_with fail
  refine (C.out _).mono ?_
  rintro e w1 ⟨rfl, rfl⟩
  go_wp2_with fail
  go_ret
  exact ⟨rfl, rfl⟩
set_option maxHeartbeats 1000000 in
theorem pdq6_any (g c base : Nat) (zs : List Int) (w : World) (hn : zs.length = 3) (hown : w.ownsRow base 3 1 (.slice (some ⟨g, 0, none⟩) 3 c) 3 (zs.map (.int .i64))) :
    Calls Try.prog 101 #[.slice (some ⟨g, 0, none⟩) 3 c, .int .i64 0, .int .i64 3, .int .i64 2] w fun e w' => (∃ v, e = .returned v) ∧
      ∃ ys : List Int, ys.Perm zs ∧ AscK ys 3 ∧ w'.ownsRow base 3 1 (.slice (some ⟨g, 0, none⟩) 3 c) 3 (ys.map (.int .i64)) ∧ w.grownBy w' (some g) := by
  have C := Lib.hid (ins6_any g 3 c base zs w hn (by omega) hown)
  clear hown hn
  go_enter Try.func101, Try.ntmps101
  go_wp2_with fail
  go_loopw [1, 2, 3] (fun a b l wr => a = .int .i64 0 ∧ b = .int .i64 3 ∧ wr = w) (fun _ _ _ _ => 0)
  case atStart => exact ⟨rfl, rfl, rfl⟩
  case round =>
    obtain ⟨rfl, rfl, rfl⟩ := hrel
    go_wp2_with fail
    refine C.out.mono ?_
    rintro e w1 ⟨⟨v, rfl⟩, ys, h1, h2, h3, h4⟩
    go_wp2_with fail
    refine bodyPost_ret (results_none rfl _ _ _) rfl ?_
    exact ⟨⟨_, rfl⟩, ys, h1, h2, h3, h4⟩

set_option maxHeartbeats 1000000 in
theorem sort6_any (g c base : Nat) (zs : List Int) (w : World) (hn : zs.length = 3) (hown : w.ownsRow base 3 1 (.slice (some ⟨g, 0, none⟩) 3 c) 3 (zs.map (.int .i64))) :
    Calls Try.prog 94 #[.slice (some ⟨g, 0, none⟩) 3 c] w fun e w' => (∃ v, e = .returned v) ∧
      ∃ ys : List Int, ys.Perm zs ∧ AscK ys 3 ∧ w'.ownsRow base 3 1 (.slice (some ⟨g, 0, none⟩) 3 c) 3 (ys.map (.int .i64)) ∧ w.grownBy w' (some g) := by
  have C := Lib.hid (pdq6_any g c base zs w hn hown)
  have C2 := Lib.hid (fun W => len6_any W)
  clear hown hn
  go_enter Try.func94, Try.ntmps94
  go_wp2_with fail
  refine (C2.out _).mono ?_
  rintro e w1 ⟨rfl, rfl⟩
  go_wp2_with fail
  refine C.out.mono ?_
  rintro e w1 ⟨⟨v, rfl⟩, ys, h1, h2, h3, h4⟩
  go_wp2_with fail
  go_end0
  exact ⟨⟨_, rfl⟩, ys, h1, h2, h3, h4⟩

set_option maxHeartbeats 1000000 in
/-- Three levels in order, in a row of one's own. -/
theorem sorted6_any (Bs d : Nat) (A : Option Addr) (c : Nat) (zs : List Int) (hz : zs.length = 3) (w : World) (hbs : Bs < w.heap.size) (hd : d ≤ w.heap.size)
    (hBs : w.cell? ⟨Bs, 0, none⟩ = some (.slice A 3 c)) (hh : Has w d A (zs.map (.int .i64))) :
    Calls Try.prog 62 #[.func (.func 95) #[] #[.pointer (some ⟨Bs, 0, none⟩)]] w fun e w' =>
      ∃ (g cp : Nat) (ys : List Int), e = .returned (.slice (some ⟨g, 0, none⟩) 3 cp) ∧ ys.Perm zs ∧ AscK ys 3 ∧ w'.ownsRow w.heap.size 3 1 (.slice (some ⟨g, 0, none⟩) 3 cp) 3 (ys.map (.int .i64)) ∧ Below w.heap.size w w' := by
  have C := Lib.hid (appSeq_any Bs d A 3 c zs hz (by omega) w hbs hd hBs hh)
  have CC : Hid (Calls Try.prog 93 #[.func (.func 95) #[] #[.pointer (some ⟨Bs, 0, none⟩)]] w
      fun e w' => ∃ v, e = .returned v ∧ w'.ownsRow w.heap.size 3 1 v 3 (zs.map (.int .i64)) ∧ Below w.heap.size w w') := Lib.hid (by
    clear hh hBs
    go_enter Try.func93, Try.ntmps93
    go_wp2_with fail
    refine C.out.mono ?_
    rintro e w1 ⟨v, rfl, h1, h2⟩
    go_wp2_with fail
    go_ret
    exact ⟨v, rfl, h1, h2⟩)
  have CS := Lib.hid (fun g cp base W h => sort6_any g cp base zs W hz h)
  clear hh hBs C
  go_enter Try.func62, Try.ntmps62
  go_wp2_with fail
  refine CC.out.mono ?_
  rintro e w1 ⟨v, rfl, h1, h2⟩
  obtain ⟨g, cp, rfl, hg⟩ := own_some h1 (fun e => by
    have h3 := h1.2
    rw [e] at h3
    rcases h3 with ⟨-, h⟩ | ⟨_, _, _, h, -⟩
    · cases h
    · cases h)
  have HO := Lib.hid h1
  have HB := Lib.hid h2
  clear h1 h2 CC
  go_wp2_with fail
  refine (CS.out _ _ _ _ HO.out).mono ?_
  rintro e w2 ⟨⟨v, rfl⟩, ys, h1, h2, h3, h4⟩
  have H1 := Lib.hid h1
  have H2 := Lib.hid h2
  have H3 := Lib.hid h3
  have HB2 := Lib.hid (HB.out.grown h4 HB.out.size (fun k e => by cases e; exact hg))
  clear h1 h2 h3 h4 CS
  go_wp2_with fail
  go_ret
  exact ⟨g, cp, ys, rfl, H1.out, H2.out, H3.out, HB2.out⟩
end Go.Proofs.Yteeljlpbijmhlaa
