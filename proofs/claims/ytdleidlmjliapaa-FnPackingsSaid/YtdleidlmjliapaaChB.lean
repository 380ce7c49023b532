/- Chapter 4: whether hulls are hulls: the model and the program. -/
import Derived.Test.YtdleidlmjliapaaChA
namespace Go.Proofs.Ytdleidlmjliapaa
open Go.RowKit Go.PlainAid Go.Sort
set_option linter.unusedVariables false
set_option linter.unusedSimpArgs false


set_option maxHeartbeats 1000000 in
theorem l4Good_any {w : World} {B : Nat} {A : Option Addr} {n : Nat} {hs : List THull} (c : Nat) (h : IsHulls w B A n hs) (hm : n ≤ maxLen) :
    Calls Try.prog 38 #[.slice A n c] w fun e w' => e = .returned (.bool (gHs hs)) ∧ Below w.heap.size w w' := by
  unfold maxLen at hm
  have CI := Lib.hid (fun (x a b : Int) (W : World) => toBelow (l1In_any x a b W))
  have HI := Lib.hid h
  have HY := Lib.hid (fun h : goodHs hs => gHs_yes h)
  have HN := Lib.hid (fun h : ¬ goodHs hs => gHs_no h)
  generalize gHs hs = R at HY HN ⊢
  clear h
  go_enter Try.func38, Try.ntmps38
  go_wp2_with fail
  go_loopw [3] (fun i wr => ∃ k : Nat, k ≤ n ∧ i = .int .i64 k ∧ Hid (∀ j, j < k → okHs hs j) ∧ Below w.heap.size w wr) (fun i _ => n - (intOf i).toNat)
  case atStart => exact ⟨0, Nat.zero_le _, rfl, Lib.hid (by simp), Below.refl _ _⟩
  case round =>
    obtain ⟨k, hk, rfl, hall, hb⟩ := hrel
    by_cases hlt : k < n
    · skip
      have hkl : k < hs.length := by rw [HI.out.len]; exact hlt
      obtain ⟨a1, rfl, hab, HV⟩ := (HI.out.below hb HI.out.low).has.Hull hkl
      have HOK : Hid (okHs hs k ↔ goodH (hs.getD k noHull) ∧ (0 < k → (hs.getD (k - 1) noHull).x0 < (hs.getD k noHull).x0)) := Lib.hid Iff.rfl
      have HF : Hid (¬ okHs hs k → R = false) := Lib.hid (fun h => HN.out (fun g => h (g.2 k hkl)))
      have HA : Hid (okHs hs k → ∀ j, j < k + 1 → okHs hs j) := Lib.hid (fun h j hj => by
        rcases Nat.lt_succ_iff_lt_or_eq.1 hj with h1 | h1
        · exact hall.out j h1
        · exact h1 ▸ h)
      obtain ⟨V, hV⟩ : ∃ V, hs.getD k noHull = V := ⟨_, rfl⟩
      rw [hV] at HV HOK
      have HVE := Lib.hid hV
      clear hV
      obtain ⟨d, l, b⟩ := V
      obtain ⟨e0, e1, e2⟩ := HV
      dsimp only at e0 e1 e2
      have HB := Lib.hid hb
      have hk0 : (0 : Int) ≤ (k : Int) := by omega
      have hk1 : (k : Int) < (n : Int) := by omega
      clear hb hall
      go_wp2_with fail
      obtain ⟨W5, hW5⟩ : ∃ W, World.alloc wr (.cells #[.int .i64 d, .int .i64 l, .int .i64 b] 40) = W := ⟨_, rfl⟩
      obtain ⟨xb, hxb⟩ : ∃ x, (wr : World).heap.size = x := ⟨_, rfl⟩
      have cxb0 : W5.cell? ⟨xb, 0, none⟩ = some (.int .i64 d) := by rw [← hW5, ← hxb, sNew]; rfl
      have cxb1 : W5.cell? ⟨xb, 1, none⟩ = some (.int .i64 l) := by rw [← hW5, ← hxb, sNew]; rfl
      have cxb2 : W5.cell? ⟨xb, 2, none⟩ = some (.int .i64 b) := by rw [← hW5, ← hxb, sNew]; rfl
      have HB5 := Lib.hid (show Below w.heap.size w W5 by rw [← hW5]; exact HB.out.alloc HB.out.size _)
      rw [hW5, hxb]
      clear hW5 hxb
      have Exb0 := fun (d : Nat) (os : Array Obj) => cell_regrown cxb0 d os
      have Exb1 := fun (d : Nat) (os : Array Obj) => cell_regrown cxb1 d os
      have Exb2 := fun (d : Nat) (os : Array Obj) => cell_regrown cxb2 d os
      clear cxb0 cxb1 cxb2
      clear e0 e1 e2
      have D0 := Lib.hid (CI.out d 1 99)
      have D1 := Lib.hid (CI.out l 1 6)
      have D2 := Lib.hid (CI.out b 1 3)
      clear CI
      by_cases g0 : 1 ≤ d ∧ d ≤ 99
      · by_cases g1 : 1 ≤ l ∧ l ≤ 6
        · by_cases g2 : 1 ≤ b ∧ b ≤ 3
          · have hg : goodH ⟨d, l, b⟩ := ⟨g0, g1, g2⟩
            rw [decide_eq_true g0] at D0
            rw [decide_eq_true g1] at D1
            rw [decide_eq_true g2] at D2
            have c0 := fun (dr : Nat) (os : Array Obj) => Calls.regrown_of (w := W5) (d := dr) (os := os) (D0.out _)
            have c1 := fun (dr : Nat) (os : Array Obj) => Calls.regrown_of (w := W5) (d := dr) (os := os) (D1.out _)
            have c2 := fun (dr : Nat) (os : Array Obj) => Calls.regrown_of (w := W5) (d := dr) (os := os) (D2.out _)
            clear g0 g1 g2 D0 D1 D2
            rcases Nat.eq_zero_or_pos k with h0 | h0
            · have hkz : ¬ 0 < k := by omega
              have HK0 := Lib.hid h0
              clear h0
              refine wp_region_quiet_below (by kernel_rfl) (by kernel_rfl) ?_
              repeat (go_big_quiet_step (first | with_reducible exact c0 _ _ | with_reducible exact c1 _ _ | with_reducible exact c2 _ _))
              refine wpQuiet_nil ?_
              intro _ hw'
              obtain ⟨⟨dq, osq⟩, hw''⟩ := hw'
              subst hw''
              have HB2 := Lib.hid (HB5.out.trans ((below_regrown W5 dq osq).mono HB5.out.size))
              clear Exb0 Exb1 Exb2 c0 c1 c2
              have HR := Lib.hid (HA.out (HOK.out.2 ⟨hg, fun h => absurd h (by have := HK0.out; omega)⟩))
              clear HA HOK HF HY HN HI HVE hg
              go_wp2
              go_roundw
              case rel => exact ⟨k + 1, by omega,  by go_num, HR, HB2.out⟩
              case measure => simp [intOf]; omega
            · obtain ⟨kp, rfl⟩ : ∃ kp, k = kp + 1 := ⟨k - 1, by omega⟩
              have hpl : kp < hs.length := by omega
              obtain ⟨a5, e5, -, HP⟩ := (HI.out.below HB5.out HI.out.low).has.Hull hpl
              injection e5 with e5
              subst e5
              obtain ⟨PV, hPV⟩ : ∃ V, hs.getD kp noHull = V := ⟨_, rfl⟩
              rw [hPV] at HP
              have HPE := Lib.hid hPV
              clear hPV
              have P0 := fun (d : Nat) (os : Array Obj) => cell_regrown HP.c0 d os
              clear HP
              obtain ⟨pi, pl, pb⟩ := PV
              dsimp only at P0
              have hkp : 0 < kp + 1 := by omega
              clear h0
              have hp0 : (0 : Int) ≤ (kp : Int) := by omega
              have hp1 : (kp : Int) < (n : Int) := by omega
              by_cases hpi : d ≤ pi
              · obtain rfl : R = false := HF.out (fun h => by
                  have := (HOK.out.1 h).2 (by omega)
                  rw [Nat.add_sub_cancel, HPE.out] at this
                  exact absurd this (by show ¬ pi < d; omega))
                clear HA HOK HF HY HN HI HPE HVE hg
                refine wp_region_quiet_below (by kernel_rfl) (by kernel_rfl) ?_
                repeat (go_big_quiet_step (first | with_reducible exact c0 _ _ | with_reducible exact c1 _ _ | with_reducible exact c2 _ _))
                refine wpQuiet_nil ?_
                intro _ hw'
                obtain ⟨⟨dq, osq⟩, hw''⟩ := hw'
                subst hw''
                have HB2 := Lib.hid (HB5.out.trans ((below_regrown W5 dq osq).mono HB5.out.size))
                clear Exb0 Exb1 Exb2 P0 c0 c1 c2
                go_wp2
                go_ret
                exact ⟨rfl, HB2.out⟩
              · have HPL : Hid (pi < d) := Lib.hid (by omega)
                refine wp_region_quiet_below (by kernel_rfl) (by kernel_rfl) ?_
                repeat (go_big_quiet_step (first | with_reducible exact c0 _ _ | with_reducible exact c1 _ _ | with_reducible exact c2 _ _))
                refine wpQuiet_nil ?_
                intro _ hw'
                obtain ⟨⟨dq, osq⟩, hw''⟩ := hw'
                subst hw''
                have HB2 := Lib.hid (HB5.out.trans ((below_regrown W5 dq osq).mono HB5.out.size))
                clear Exb0 Exb1 Exb2 P0 c0 c1 c2
                have HR := Lib.hid (HA.out (HOK.out.2 ⟨hg, fun _ => by rw [Nat.add_sub_cancel, HPE.out]; exact HPL.out⟩))
                clear HA HOK HF HY HN HI HVE HPE hg
                go_wp2
                go_roundw
                case rel => exact ⟨kp + 1 + 1, by omega,  by go_num, HR, HB2.out⟩
                case measure => simp [intOf]; omega
          · have hg : ¬ goodH ⟨d, l, b⟩ := fun h => g2 h.2.2
            rw [decide_eq_true g0] at D0
            rw [decide_eq_true g1] at D1
            rw [decide_eq_false g2] at D2
            have c0 := fun (dr : Nat) (os : Array Obj) => Calls.regrown_of (w := W5) (d := dr) (os := os) (D0.out _)
            have c1 := fun (dr : Nat) (os : Array Obj) => Calls.regrown_of (w := W5) (d := dr) (os := os) (D1.out _)
            have c2 := fun (dr : Nat) (os : Array Obj) => Calls.regrown_of (w := W5) (d := dr) (os := os) (D2.out _)
            clear g0 g1 g2 D0 D1 D2
            obtain rfl : R = false := HF.out (fun h => hg (HOK.out.1 h).1)
            clear HOK HF HA HVE HI HY HN
            refine wp_region_quiet_below (by kernel_rfl) (by kernel_rfl) ?_
            repeat (go_big_quiet_step (first | with_reducible exact c0 _ _ | with_reducible exact c1 _ _ | with_reducible exact c2 _ _))
            refine wpQuiet_nil ?_
            intro _ hw'
            obtain ⟨⟨dq, osq⟩, hw''⟩ := hw'
            subst hw''
            have HB2 := Lib.hid (HB5.out.trans ((below_regrown W5 dq osq).mono HB5.out.size))
            clear Exb0 Exb1 Exb2 c0 c1 c2
            go_wp2
            go_ret
            exact ⟨rfl, HB2.out⟩
        · have hg : ¬ goodH ⟨d, l, b⟩ := fun h => g1 h.2.1
          rw [decide_eq_true g0] at D0
          rw [decide_eq_false g1] at D1
          have c0 := fun (dr : Nat) (os : Array Obj) => Calls.regrown_of (w := W5) (d := dr) (os := os) (D0.out _)
          have c1 := fun (dr : Nat) (os : Array Obj) => Calls.regrown_of (w := W5) (d := dr) (os := os) (D1.out _)
          clear g0 g1 D0 D1 D2
          obtain rfl : R = false := HF.out (fun h => hg (HOK.out.1 h).1)
          clear HOK HF HA HVE HI HY HN
          refine wp_region_quiet_below (by kernel_rfl) (by kernel_rfl) ?_
          repeat (go_big_quiet_step (first | with_reducible exact c0 _ _ | with_reducible exact c1 _ _))
          refine wpQuiet_nil ?_
          intro _ hw'
          obtain ⟨⟨dq, osq⟩, hw''⟩ := hw'
          subst hw''
          have HB2 := Lib.hid (HB5.out.trans ((below_regrown W5 dq osq).mono HB5.out.size))
          clear Exb0 Exb1 Exb2 c0 c1
          go_wp2
          go_ret
          exact ⟨rfl, HB2.out⟩
      · have hg : ¬ goodH ⟨d, l, b⟩ := fun h => g0 h.1
        rw [decide_eq_false g0] at D0
        have c0 := fun (dr : Nat) (os : Array Obj) => Calls.regrown_of (w := W5) (d := dr) (os := os) (D0.out _)
        clear g0 D0 D1 D2
        obtain rfl : R = false := HF.out (fun h => hg (HOK.out.1 h).1)
        clear HOK HF HA HVE HI HY HN
        refine wp_region_quiet_below (by kernel_rfl) (by kernel_rfl) ?_
        repeat (go_big_quiet_step (first | exact c0 _ _))
        refine wpQuiet_nil ?_
        intro _ hw'
        obtain ⟨⟨dq, osq⟩, hw''⟩ := hw'
        subst hw''
        have HB2 := Lib.hid (HB5.out.trans ((below_regrown W5 dq osq).mono HB5.out.size))
        clear Exb0 Exb1 Exb2 c0
        go_wp2
        go_ret
        exact ⟨rfl, HB2.out⟩
    · obtain rfl : k = n := by omega
      by_cases h4 : (k : Int) ≤ 4
      · obtain rfl : R = true := HY.out ⟨by rw [HI.out.len]; omega, fun j hj => hall.out j (by rw [HI.out.len] at hj; exact hj)⟩
        clear HY HN HI CI hall
        go_wp2
        go_ret
        exact ⟨ret_bool (by simp), hb⟩
      · obtain rfl : R = false := HN.out (fun g => by have := g.1; rw [HI.out.len] at this; omega)
        clear HY HN HI CI hall
        go_wp2
        go_ret
        exact ⟨ret_bool (by simp), hb⟩

set_option maxHeartbeats 2000000 in
theorem areHulls_any {w : World} {B : Nat} {A : Option Addr} {n : Nat} {hs : List THull} (c : Nat) (h : IsHulls w B A n hs) (hm : n ≤ maxLen) :
    Calls Try.prog 10 #[.slice A n c] w fun e w' => e = .returned (.bool (gHs hs)) ∧ Below w.heap.size w w' := by
  unfold maxLen at hm
  have CI := Lib.hid (fun (x a b : Int) (W : World) => isHull_any x a b W)
  have HI := Lib.hid h
  have HY := Lib.hid (fun h : goodHs hs => gHs_yes h)
  have HN := Lib.hid (fun h : ¬ goodHs hs => gHs_no h)
  generalize gHs hs = R at HY HN ⊢
  clear h
  by_cases h4 : (4 : Int) < (n : Int)
  · obtain rfl : R = false := HN.out (fun g => by have := g.1; rw [HI.out.len] at this; omega)
    clear HY HN HI CI
    go_enter Try.func10, Try.ntmps10
    go_wp2
    go_ret
    exact ⟨rfl, Below.refl _ _⟩
  go_enter Try.func10, Try.ntmps10
  go_wp2_with fail
  go_loopw [10] (fun i wr => ∃ k : Nat, k ≤ n ∧ i = .int .i64 k ∧ Hid (∀ j, j < k → okHs hs j) ∧ Below w.heap.size w wr) (fun i _ => n - (intOf i).toNat)
  case atStart => exact ⟨0, Nat.zero_le _, rfl, Lib.hid (by simp), Below.refl _ _⟩
  case round =>
    obtain ⟨k, hk, rfl, hall, hb⟩ := hrel
    by_cases hlt : k < n
    · skip
      have hkl : k < hs.length := by rw [HI.out.len]; exact hlt
      obtain ⟨a1, rfl, hab, HV⟩ := (HI.out.below hb HI.out.low).has.Hull hkl
      have HOK : Hid (okHs hs k ↔ goodH (hs.getD k noHull) ∧ (0 < k → (hs.getD (k - 1) noHull).x0 < (hs.getD k noHull).x0)) := Lib.hid Iff.rfl
      have HF : Hid (¬ okHs hs k → R = false) := Lib.hid (fun h => HN.out (fun g => h (g.2 k hkl)))
      have HA : Hid (okHs hs k → ∀ j, j < k + 1 → okHs hs j) := Lib.hid (fun h j hj => by
        rcases Nat.lt_succ_iff_lt_or_eq.1 hj with h1 | h1
        · exact hall.out j h1
        · exact h1 ▸ h)
      obtain ⟨V, hV⟩ : ∃ V, hs.getD k noHull = V := ⟨_, rfl⟩
      rw [hV] at HV HOK
      have HVE := Lib.hid hV
      clear hV
      obtain ⟨d, l, b⟩ := V
      obtain ⟨e0, e1, e2⟩ := HV
      dsimp only at e0 e1 e2
      have HB := Lib.hid hb
      have hk0 : (0 : Int) ≤ (k : Int) := by omega
      have hk1 : (k : Int) < (n : Int) := by omega
      clear hb hall
      go_wp2_with fail
      obtain ⟨W5, hW5⟩ : ∃ W, World.alloc wr (.cells #[.int .i64 d, .int .i64 l, .int .i64 b] 40) = W := ⟨_, rfl⟩
      obtain ⟨xb, hxb⟩ : ∃ x, (wr : World).heap.size = x := ⟨_, rfl⟩
      have cxb0 : W5.cell? ⟨xb, 0, none⟩ = some (.int .i64 d) := by rw [← hW5, ← hxb, sNew]; rfl
      have cxb1 : W5.cell? ⟨xb, 1, none⟩ = some (.int .i64 l) := by rw [← hW5, ← hxb, sNew]; rfl
      have cxb2 : W5.cell? ⟨xb, 2, none⟩ = some (.int .i64 b) := by rw [← hW5, ← hxb, sNew]; rfl
      have HB5 := Lib.hid (show Below w.heap.size w W5 by rw [← hW5]; exact HB.out.alloc HB.out.size _)
      rw [hW5, hxb]
      clear hW5 hxb
      have Exb0 := fun (d : Nat) (os : Array Obj) => cell_regrown cxb0 d os
      have Exb1 := fun (d : Nat) (os : Array Obj) => cell_regrown cxb1 d os
      have Exb2 := fun (d : Nat) (os : Array Obj) => cell_regrown cxb2 d os
      clear cxb0 cxb1 cxb2
      clear e0 e1 e2
      have D0 := Lib.hid (CI.out d l b)
      clear CI
      by_cases hg : goodH ⟨d, l, b⟩
      · rw [decide_eq_true hg] at D0
        have c0 := fun (dr : Nat) (os : Array Obj) => Calls.regrown_of (w := W5) (d := dr) (os := os) (D0.out _)
        have HG := Lib.hid hg
        clear D0
        rcases Nat.eq_zero_or_pos k with h0 | h0
        · have hkz : ¬ 0 < k := by omega
          have HK0 := Lib.hid h0
          clear h0
          refine wp_region_quiet_below (by kernel_rfl) (by kernel_rfl) ?_
          repeat (go_big_quiet_step (first | exact c0 _ _))
          refine wpQuiet_nil ?_
          intro _ hw'
          obtain ⟨⟨dq, osq⟩, hw''⟩ := hw'
          subst hw''
          have HB2 := Lib.hid (HB5.out.trans ((below_regrown W5 dq osq).mono HB5.out.size))
          clear Exb0 Exb1 Exb2 c0
          have HR := Lib.hid (HA.out (HOK.out.2 ⟨hg, fun h => absurd h (by have := HK0.out; omega)⟩))
          clear HA HOK HF HY HN HI HVE hg
          go_wp2
          go_roundw
          case rel => exact ⟨k + 1, by omega,  by go_num, HR, HB2.out⟩
          case measure => simp [intOf]; omega
        · obtain ⟨kp, rfl⟩ : ∃ kp, k = kp + 1 := ⟨k - 1, by omega⟩
          have hpl : kp < hs.length := by omega
          obtain ⟨a5, e5, -, HP⟩ := (HI.out.below HB5.out HI.out.low).has.Hull hpl
          injection e5 with e5
          subst e5
          obtain ⟨PV, hPV⟩ : ∃ V, hs.getD kp noHull = V := ⟨_, rfl⟩
          rw [hPV] at HP
          have HPE := Lib.hid hPV
          clear hPV
          have P0 := fun (d : Nat) (os : Array Obj) => cell_regrown HP.c0 d os
          clear HP
          obtain ⟨pi, pl, pb⟩ := PV
          dsimp only at P0
          have hkp : 0 < kp + 1 := by omega
          clear h0
          have hp0 : (0 : Int) ≤ (kp : Int) := by omega
          have hp1 : (kp : Int) < (n : Int) := by omega
          by_cases hpi : d ≤ pi
          · obtain rfl : R = false := HF.out (fun h => by
              have := (HOK.out.1 h).2 (by omega)
              rw [Nat.add_sub_cancel, HPE.out] at this
              exact absurd this (by show ¬ pi < d; omega))
            clear HA HOK HF HY HN HI HPE HVE hg
            refine wp_region_quiet_below (by kernel_rfl) (by kernel_rfl) ?_
            repeat (go_big_quiet_step (first | exact c0 _ _))
            refine wpQuiet_nil ?_
            intro _ hw'
            obtain ⟨⟨dq, osq⟩, hw''⟩ := hw'
            subst hw''
            have HB2 := Lib.hid (HB5.out.trans ((below_regrown W5 dq osq).mono HB5.out.size))
            clear Exb0 Exb1 Exb2 P0 c0
            go_wp2
            go_ret
            exact ⟨rfl, HB2.out⟩
          · have HPL : Hid (pi < d) := Lib.hid (by omega)
            refine wp_region_quiet_below (by kernel_rfl) (by kernel_rfl) ?_
            repeat (go_big_quiet_step (first | exact c0 _ _))
            refine wpQuiet_nil ?_
            intro _ hw'
            obtain ⟨⟨dq, osq⟩, hw''⟩ := hw'
            subst hw''
            have HB2 := Lib.hid (HB5.out.trans ((below_regrown W5 dq osq).mono HB5.out.size))
            clear Exb0 Exb1 Exb2 P0 c0
            have HR := Lib.hid (HA.out (HOK.out.2 ⟨hg, fun _ => by rw [Nat.add_sub_cancel, HPE.out]; exact HPL.out⟩))
            clear HA HOK HF HY HN HI HVE HPE hg
            go_wp2
            go_roundw
            case rel => exact ⟨kp + 1 + 1, by omega,  by go_num, HR, HB2.out⟩
            case measure => simp [intOf]; omega
      · rw [decide_eq_false hg] at D0
        have c0 := fun (dr : Nat) (os : Array Obj) => Calls.regrown_of (w := W5) (d := dr) (os := os) (D0.out _)
        clear D0
        obtain rfl : R = false := HF.out (fun h => hg (HOK.out.1 h).1)
        clear HOK HF HA HVE HI HY HN
        refine wp_region_quiet_below (by kernel_rfl) (by kernel_rfl) ?_
        repeat (go_big_quiet_step (first | exact c0 _ _))
        refine wpQuiet_nil ?_
        intro _ hw'
        obtain ⟨⟨dq, osq⟩, hw''⟩ := hw'
        subst hw''
        have HB2 := Lib.hid (HB5.out.trans ((below_regrown W5 dq osq).mono HB5.out.size))
        clear Exb0 Exb1 Exb2 c0
        go_wp2
        go_ret
        exact ⟨rfl, HB2.out⟩
    · obtain rfl : k = n := by omega
      obtain rfl : R = true := HY.out ⟨by rw [HI.out.len]; omega, fun j hj => hall.out j (by rw [HI.out.len] at hj; exact hj)⟩
      clear HY HN HI CI hall
      go_wp2
      go_ret
      exact ⟨rfl, hb⟩
end Go.Proofs.Ytdleidlmjliapaa
