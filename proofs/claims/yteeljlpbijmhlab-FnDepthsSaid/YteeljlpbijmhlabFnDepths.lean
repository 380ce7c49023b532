/- FnDepths holds: a lighter vessel passes where it passed before, and vessels are ordered by their cells; at every list of bytes. -/
import Derived.Test.YteeljlpbijmhlabDrF
import Derived.Test.YteeljlpbijmhlabDrG
import Derived.Test.YteeljlpbijmhlabSeBig
import Derived.Test.YteeljlpbijmhlabSt0
import Derived.OpenShut
import Derived.ShutString
import Derived.ChangeOld
import Derived.WalkLawsBesides
import Derived.Lib.SmallJoins
import Derived.Deep.RegionHeld3
namespace Go.Proofs.Yteeljlpbijmhlab.fnDepths
open Go.ChangeShapes Go.WideShapes Go.ChangeAt Go.RowKit
open Go.ChangeMaps (open_string shut_string)
set_option linter.unusedVariables false
set_option linter.unusedSimpArgs false

set_option maxRecDepth 100000 in
set_option maxHeartbeats 16000000 in
theorem walk (A : Option Addr) (n c : Nat) (zs : List Int) (w : World) (hI : IsInts .u8 w A n zs) :
    Calls Try.prog 3 #[.slice A n c] w fun e w' => e = .returned (.bool true) ∧ Below w.heap.size w w' := by
  have CB := Lib.hid (fun W => rBig_any A n c W hI.2.1)
  by_cases hbig : (65536 : Int) < (n : Int)
  · rw [decide_eq_true hbig] at CB
    clear hI
    go_enter Try.func3, Try.ntmps3
    go_wp2_with fail
    refine (CB.out _).mono ?_
    rintro e w1 ⟨rfl, rfl⟩
    go_wp2_with fail
    go_ret
    exact ⟨rfl, Below.refl _ _⟩
  · rw [decide_eq_false hbig] at CB
    have HC := Lib.hid (Code_.of hI (by omega))
    have D1 := Lib.hid (drawLig_any c HC.out)
    clear hI hbig
    go_enter Try.func3, Try.ntmps3
    go_wp2_with fail
    refine (CB.out _).mono ?_
    rintro e w1 ⟨rfl, rfl⟩
    clear CB
    go_wp2_with fail
    refine D1.out.mono ?_
    rintro e w1 ⟨g1, c1, q1, L1, t1, z1, rfl, hz1, hq1, hqc1, hL1, hb⟩
    have HB1 := Lib.hid hb
    have HL1 := Lib.hid hL1
    clear hb D1 hL1
    obtain ⟨M, x, hM8, hMn, hLi⟩ := light_ex L1 q1 HL1.out.len t1 z1
    obtain ⟨Mn, hMl⟩ : ∃ k, M.length = k := ⟨_, rfl⟩
    rw [hMl] at hM8
    have HLi := Lib.hid hLi
    have HMn := Lib.hid hMn
    have HMl := Lib.hid hMl
    have C1 := Lib.hid (ligI_any c1 HL1.out (by unfold maxLen; omega) hqc1 t1 z1 (by omega) M x hMn Mn hMl hLi)
    have hxx : (x != x) = false := by simp
    clear hLi hMn hMl
    go_wp2_with fail
    refine C1.out.mono ?_
    rintro e w2 ⟨g2, c2, rfl, hMc, hv, hb⟩
    have HB2 := Lib.hid (HB1.out.trans (hb.mono HB1.out.size))
    have HL2 := Lib.hid (HL1.out.below hb HL1.out.low)
    have HM2 := Lib.hid hv
    clear hb hv HB1 HL1 C1
    have C2 := Lib.hid (ligS_any c1 HL2.out (by unfold maxLen; omega) t1 z1 M x HMn.out Mn HMl.out HLi.out)
    go_wp2_with fail
    refine C2.out.mono ?_
    rintro e w3 ⟨g3, c3, rfl, -, hv, hb⟩
    have HB3 := Lib.hid (HB2.out.trans (hb.mono HB2.out.size))
    have HL3 := Lib.hid (HL2.out.below hb HL2.out.low)
    have HM3 := Lib.hid (HM2.out.below hb HM2.out.low)
    have CR := Lib.hid (rVs_same c2 c3 HM3.out hv (by unfold maxLen; omega))
    clear hb hv HB2 HL2 HM2 C2
    go_wp2_with fail
    refine CR.out.mono ?_
    rintro e w4 ⟨rfl, hb⟩
    have HB4 := Lib.hid (HB3.out.trans (hb.mono HB3.out.size))
    have HL4 := Lib.hid (HL3.out.below hb HL3.out.low)
    have HM4 := Lib.hid (HM3.out.below hb HM3.out.low)
    have D2 := Lib.hid (drawPas_any c (HC.out.on HB4.out))
    clear hb HB3 HL3 HM3 CR HMn
    go_wp2_with fail
    refine D2.out.mono ?_
    rintro e w5 ⟨g5, c5, q5, L5, t5, z5, rfl, -, hq5, hqc5, hL5, hb⟩
    have HB5 := Lib.hid (HB4.out.trans (hb.mono HB4.out.size))
    have HL5 := Lib.hid (HL4.out.below hb HL4.out.low)
    have HM5 := Lib.hid (HM4.out.below hb HM4.out.low)
    have HV5 := Lib.hid hL5
    clear hb hL5 D2 HB4 HL4 HM4
    obtain ⟨P, y, hP, hPn⟩ := pasA_ex L5 t5 z5
    obtain ⟨Pn, hPl⟩ : ∃ k, P.length = k := ⟨_, rfl⟩
    rw [HV5.out.len, hPl] at hPn
    have HP := Lib.hid hP
    have HPl := Lib.hid hPl
    have C1 := Lib.hid (pasI_any c5 HV5.out (by unfold maxLen; omega) hqc5 t5 z5 P y Pn hPl hP)
    have hyy : (y != y) = false := by simp
    clear hP hPl
    go_wp2_with fail
    refine C1.out.mono ?_
    rintro e w6 ⟨g6, c6, rfl, hv, hb⟩
    have HB6 := Lib.hid (HB5.out.trans (hb.mono HB5.out.size))
    have HL6 := Lib.hid (HL5.out.below hb HL5.out.low)
    have HM6 := Lib.hid (HM5.out.below hb HM5.out.low)
    have HV6 := Lib.hid (HV5.out.below hb HV5.out.low)
    have HP6 := Lib.hid hv
    clear hb hv HB5 HL5 HM5 HV5 C1
    have C2 := Lib.hid (pasS_any c5 HV6.out (by unfold maxLen; omega) t5 z5 P y Pn HPl.out HP.out)
    go_wp2_with fail
    refine C2.out.mono ?_
    rintro e w7 ⟨g7, c7, rfl, hv, hb⟩
    have HB7 := Lib.hid (HB6.out.trans (hb.mono HB6.out.size))
    have HL7 := Lib.hid (HL6.out.below hb HL6.out.low)
    have HM7 := Lib.hid (HM6.out.below hb HM6.out.low)
    have HP7 := Lib.hid (HP6.out.below hb HP6.out.low)
    have CR := Lib.hid (rInts_same (some ⟨g6, 0, none⟩) (some ⟨g7, 0, none⟩) Pn c6 c7 _ _ P w7 HPl.out (by unfold maxLen; omega) HP7.out.has hv.has)
    clear hb hv HB6 HL6 HM6 HV6 HP6 C2
    go_wp2_with fail
    refine CR.out.mono ?_
    rintro e w8 ⟨rfl, hd⟩
    have HB8 := Lib.hid (HB7.out.trans ((hd.below w7.heap.size).mono HB7.out.size))
    have HL8 := Lib.hid (HL7.out.below (hd.below w7.heap.size) HL7.out.low)
    have HM8 := Lib.hid (HM7.out.below (hd.below w7.heap.size) HM7.out.low)
    clear hd HB7 HL7 HM7 HP7 CR HP HPl
    cases x with
    | false =>
      clear HL8 HM8 HLi HMl
      -- the drawn list that is put into an order
      have D3 := Lib.hid (drawOrd_any c (HC.out.on HB8.out))
      go_wp2_with fail
      refine D3.out.mono ?_
      rintro e w20 ⟨g20, c20, q20, vs, rfl, hq20, hqc20, hvs, hb⟩
      have HB20 := Lib.hid (HB8.out.trans (hb.mono HB8.out.size))
      have HV := Lib.hid hvs
      clear hb D3 HB8 hvs
      obtain ⟨L, x3, hL8, hO⟩ := ord_two vs
      obtain ⟨C, hC1, hC2, hC3, hC4, hC5⟩ := ord_cells hO
      obtain ⟨Ln, hLn⟩ : ∃ k, L.length = k := ⟨_, rfl⟩
      rw [hLn] at hL8 hC1 hC2 hC3 hC4 hC5
      rw [HV.out.len] at hC3 hC4
      have HLn := Lib.hid hLn
      have HO := Lib.hid hO
      have HC1 := Lib.hid hC1
      have HC2 := Lib.hid hC2
      have HC3 := Lib.hid hC3
      have CI := Lib.hid (ordI_any c20 HV.out (by unfold maxLen; omega) hqc20 L x3 Ln hLn hO)
      have hxx3 : (x3 != x3) = false := by simp
      clear hO hLn hC1 hC2 hC3
      go_wp2_with fail
      refine CI.out.mono ?_
      rintro e w21 ⟨g21, c21, rfl, hv, hb⟩
      have HB21 := Lib.hid (HB20.out.trans (hb.mono HB20.out.size))
      have HV21 := Lib.hid (HV.out.below hb HV.out.low)
      have HI21 := Lib.hid hv
      clear hb hv HB20 HV CI
      have CS := Lib.hid (ordS_any c20 HV21.out (by unfold maxLen; omega) L x3 Ln HLn.out HO.out)
      go_wp2_with fail
      refine CS.out.mono ?_
      rintro e w22 ⟨g22, c22, rfl, hv, hb⟩
      have HB22 := Lib.hid (HB21.out.trans (hb.mono HB21.out.size))
      have HV22 := Lib.hid (HV21.out.below hb HV21.out.low)
      have HI22 := Lib.hid (HI21.out.below hb HI21.out.low)
      have CR := Lib.hid (rInts_same (some ⟨g21, 0, none⟩) (some ⟨g22, 0, none⟩) Ln c21 c22 _ _ L w22 HLn.out (by unfold maxLen; omega) HI22.out.has hv.has)
      clear hb hv HB21 HV21 HI21 CS HO
      go_wp2_with fail
      refine CR.out.mono ?_
      rintro e w23 ⟨rfl, hd⟩
      have HB23 := Lib.hid (HB22.out.trans ((hd.below w22.heap.size).mono HB22.out.size))
      have HV23 := Lib.hid (HV22.out.below (hd.below w22.heap.size) HV22.out.low)
      have HI23 := Lib.hid (HI22.out.below (hd.below w22.heap.size) HI22.out.low)
      clear hd HB22 HV22 HI22 CR
      obtain ⟨ag, hag⟩ : ∃ a : Addr, (⟨g20, 0, none⟩ : Addr) = a := ⟨_, rfl⟩
      obtain ⟨ao, hao⟩ : ∃ a : Addr, (⟨g21, 0, none⟩ : Addr) = a := ⟨_, rfl⟩
      rw [hag] at HV23
      rw [hao] at HI23
      try simp only [hag, hao]
      clear hag hao
      cases x3 with
      | false =>
        clear hC4 hC5
        go_wp2_with fail
        have HZ := Lib.hid (Below.refl w23.heap.size w23)
        go_loopw [27, 28] (fun v i wr => ∃ (i0 : Nat) (v0 : Int), i0 ≤ Ln ∧ i = .int .i64 i0 ∧ v = .int .i64 v0 ∧ Hid (∀ j, i0 ≤ j → j < Ln → C j ≤ v0) ∧ Hid (Below w23.heap.size w23 wr)) (fun _ i _ => Ln - (intOf i).toNat)
        case atStart => exact ⟨0, 100, Nat.zero_le _, rfl, rfl, Lib.hid (fun j _ hj => HC2.out j hj), HZ⟩
        case round =>
          clear HZ HC2
          obtain ⟨i0, v0, hi0, rfl, rfl, hv0, HW⟩ := hrel
          by_cases hlt : i0 < Ln
          · have hi00 : (0 : Int) ≤ (i0 : Int) := by omega
            have hi01 : (i0 : Int) < (Ln : Int) := by omega
            go_wp2_with fail
            go_loopw [27, 29] (fun v kk wr2 => ∃ (k : Nat) (v1 : Int), k ≤ q20 ∧ kk = .int .i64 k ∧ v = .int .i64 v1 ∧ Hid (∀ j, i0 ≤ j → j < Ln → C j ≤ v1) ∧ Hid (Below w23.heap.size w23 wr2)) (fun _ kk _ => q20 - (intOf kk).toNat)
            case atStart => exact ⟨0, v0, Nat.zero_le _, rfl, rfl, hv0, HW⟩
            case round =>
              clear hv0 HW
              obtain ⟨k, v1, hk, rfl, rfl, hv1, HW⟩ := hrel
              by_cases hlk : k < q20
              · have hk0 : (0 : Int) ≤ (k : Int) := by omega
                have hk1 : (k : Int) < (q20 : Int) := by omega
                obtain ⟨V, hEV⟩ : ∃ V, vs[k]'(by rw [HV23.out.len]; exact hlk) = V := ⟨_, rfl⟩
                obtain ⟨o, hEO⟩ : ∃ o, L[i0]'(by rw [HI23.out.len]; exact hlt) = o := ⟨_, rfl⟩
                have H3 : Hid (V.id = o → 0 ≤ V.len * V.wid ∧ V.len * V.wid ≤ 24 ∧ V.len * V.wid = C i0) := Lib.hid (fun h => by
                  have := HC3.out i0 k hlt hlk
                  rw [getV (by rw [HV23.out.len]; exact hlk), hEV] at this
                  refine this ?_
                  rw [h, ← hEO, List.getD_eq_getElem?_getD, List.getElem?_eq_getElem (by rw [HI23.out.len]; exact hlt)]
                  rfl)
                obtain ⟨Vi, Vs, Vl, Vb, Vd, Vk⟩ := V
                have HEV := Lib.hid hEV
                have HEO := Lib.hid hEO
                dsimp only at H3
                clear hEV hEO
                obtain ⟨a2, ha2, -, e0, -, e2, e3, -, -⟩ := (HV23.out.below HW.out HV23.out.low).has.vesAt (k := k) (by rw [HV23.out.len]; exact hlk)
                injection ha2 with ha2
                subst ha2
                obtain ⟨a3, ha3, -, e6⟩ := (HI23.out.below HW.out HI23.out.low).has.intAt (k := i0) (by rw [HI23.out.len]; exact hlt)
                injection ha3 with ha3
                subst ha3
                rw [HEV.out] at e0 e2 e3
                rw [HEO.out] at e6
                have E0 := fun (d : Nat) (os : Array Obj) => cell_regrown e0 d os
                have E2 := fun (d : Nat) (os : Array Obj) => cell_regrown e2 d os
                have E3 := fun (d : Nat) (os : Array Obj) => cell_regrown e3 d os
                have E6 := fun (d : Nat) (os : Array Obj) => cell_regrown e6 d os
                clear e0 e2 e3 e6
                by_cases he : Vi = o
                · have hzz : (Vi == o) = true := by simp [he]
                  obtain ⟨h3, h4, h5⟩ := H3.out he
                  have hle := hv1.out i0 (Nat.le_refl _) hlt
                  have hng : ¬ (v1 < Vl * Vb) := by omega
                  clear H3
                  go_wp2_with fail
                  refine wp_region_quiet_below (by kernel_rfl) (by kernel_rfl) ?_
                  repeat (go_big_quiet_step (first | fail))
                  refine wpQuiet_nil ?_
                  intro _ hw'
                  obtain ⟨⟨dq, osq⟩, hw''⟩ := hw'
                  subst hw''
                  have HW1 := Lib.hid (HW.out.trans ((below_regrown wr dq osq).mono HW.out.size))
                  generalize Go.Sort.grow (redrawn wr dq) osq = W1 at HW1 ⊢
                  clear E0 E2 E3 E6
                  obtain ⟨a2, ha2, -, e0, -, e2, e3, -, -⟩ := (HV23.out.below HW1.out HV23.out.low).has.vesAt (k := k) (by rw [HV23.out.len]; exact hlk)
                  injection ha2 with ha2
                  subst ha2
                  obtain ⟨a3, ha3, -, e6⟩ := (HI23.out.below HW1.out HI23.out.low).has.intAt (k := i0) (by rw [HI23.out.len]; exact hlt)
                  injection ha3 with ha3
                  subst ha3
                  rw [HEV.out] at e0 e2 e3
                  rw [HEO.out] at e6
                  have E0 := fun (d : Nat) (os : Array Obj) => cell_regrown e0 d os
                  have E2 := fun (d : Nat) (os : Array Obj) => cell_regrown e2 d os
                  have E3 := fun (d : Nat) (os : Array Obj) => cell_regrown e3 d os
                  have E6 := fun (d : Nat) (os : Array Obj) => cell_regrown e6 d os
                  clear e0 e2 e3 e6
                  go_wp2_with fail
                  refine wp_region_quiet_below (by kernel_rfl) (by kernel_rfl) ?_
                  repeat (go_big_quiet_step (first | fail))
                  refine wpQuiet_nil ?_
                  intro _ hw'
                  obtain ⟨⟨dq, osq⟩, hw''⟩ := hw'
                  subst hw''
                  have HW2 := Lib.hid (HW1.out.trans ((below_regrown W1 dq osq).mono HW1.out.size))
                  generalize Go.Sort.grow (redrawn W1 dq) osq = W2 at HW2 ⊢
                  clear E0 E2 E3 E6
                  obtain ⟨a2, ha2, -, e0, -, e2, e3, -, -⟩ := (HV23.out.below HW2.out HV23.out.low).has.vesAt (k := k) (by rw [HV23.out.len]; exact hlk)
                  injection ha2 with ha2
                  subst ha2
                  obtain ⟨a3, ha3, -, e6⟩ := (HI23.out.below HW2.out HI23.out.low).has.intAt (k := i0) (by rw [HI23.out.len]; exact hlt)
                  injection ha3 with ha3
                  subst ha3
                  rw [HEV.out] at e0 e2 e3
                  rw [HEO.out] at e6
                  have E0 := fun (d : Nat) (os : Array Obj) => cell_regrown e0 d os
                  have E2 := fun (d : Nat) (os : Array Obj) => cell_regrown e2 d os
                  have E3 := fun (d : Nat) (os : Array Obj) => cell_regrown e3 d os
                  have E6 := fun (d : Nat) (os : Array Obj) => cell_regrown e6 d os
                  clear e0 e2 e3 e6
                  go_wp2_with fail
                  refine wp_region_quiet_below (by kernel_rfl) (by kernel_rfl) ?_
                  repeat (go_big_quiet_step (first | fail))
                  refine wpQuiet_nil ?_
                  intro _ hw'
                  obtain ⟨⟨dq, osq⟩, hw''⟩ := hw'
                  subst hw''
                  have HW3 := Lib.hid (HW2.out.trans ((below_regrown W2 dq osq).mono HW2.out.size))
                  go_wp2_with fail
                  go_roundw
                  case rel => exact ⟨k + 1, _, by omega, by go_num, rfl, Lib.hid (fun j h1 h2 => by first | exact HC1.out i0 j h1 h2 | (rw [h5]; exact HC1.out i0 j h1 h2)), HW3⟩
                  case measure => simp [intOf]; omega
                · have hzz : (Vi == o) = false := by simp [he]
                  clear H3
                  go_wp2_with fail
                  refine wp_region_quiet_below (by kernel_rfl) (by kernel_rfl) ?_
                  repeat (go_big_quiet_step (first | fail))
                  refine wpQuiet_nil ?_
                  intro _ hw'
                  obtain ⟨⟨dq, osq⟩, hw''⟩ := hw'
                  subst hw''
                  have HW1 := Lib.hid (HW.out.trans ((below_regrown wr dq osq).mono HW.out.size))
                  go_wp2_with fail
                  go_roundw
                  case rel => exact ⟨k + 1, v1, by omega, by go_num, rfl, hv1, HW1⟩
                  case measure => simp [intOf]; omega
              · obtain rfl : k = q20 := by omega
                go_wp2_with fail
                go_roundw
                case rel => exact ⟨i0 + 1, v1, by omega, by go_num, rfl, Lib.hid (fun j h1 h2 => hv1.out j (by omega) h2), HW⟩
                case measure => simp [intOf]; omega
          · have HB24 := Lib.hid (HB23.out.trans (HW.out.mono HB23.out.size))
            clear HW hv0 HB23 HV23 HI23 HC1 HC3 HLn
            -- the cells of the drawn list
            have D4 := Lib.hid (drawCel_any c (HC.out.on HB24.out))
            clear HC
            go_wp2_with fail
            refine D4.out.mono ?_
            rintro e w30 ⟨g30, c30, q30, vs4, rfl, hq30, hqc30, hvs, hb⟩
            have HB30 := Lib.hid (HB24.out.trans (hb.mono HB24.out.size))
            have HV := Lib.hid hvs
            clear hb D4 HB24 hvs
            obtain ⟨v4, x4, hx4, hv4, hv40⟩ : ∃ (v : Int) (x : Bool), gF vs4 = x ∧ (x = true → v = cel vs4 q30) ∧ (x = false → v = 0) := by
              cases hg : gF vs4 with
              | true => exact ⟨_, true, rfl, fun _ => rfl, by simp⟩
              | false => exact ⟨0, false, rfl, by simp, fun _ => rfl⟩
            have HX4 := Lib.hid hx4
            have HV4 := Lib.hid hv4
            have HV40 := Lib.hid hv40
            have CI := Lib.hid (implCells_any c30 HV.out (by unfold maxLen; omega) hqc30 x4 hx4 v4 hv4 hv40)
            have hvv4 : (v4 == v4) = true := by simp
            have hxx4 : (x4 == x4) = true := by simp
            clear hx4 hv4 hv40
            go_wp2_with fail
            refine CI.out.mono ?_
            rintro e w31 ⟨rfl, hb⟩
            have HB31 := Lib.hid (HB30.out.trans (hb.mono HB30.out.size))
            have HV31 := Lib.hid (HV.out.below hb HV.out.low)
            clear hb HB30 HV CI
            have CS := Lib.hid (specCells_any c30 HV31.out (by unfold maxLen; omega) x4 HX4.out v4 HV4.out HV40.out)
            go_wp2_with fail
            refine CS.out.mono ?_
            rintro e w32 ⟨rfl, hb⟩
            have HB32 := Lib.hid (HB31.out.trans (hb.mono HB31.out.size))
            clear hb HB31 HV31 CS HX4 HV4 HV40
            go_wp2_with fail
            go_ret
            exact ⟨rfl, HB32.out⟩
      | true =>
        have hnq : ((Ln : Int) != (q20 : Int)) = false := by
          have := hC4 rfl
          simp
          omega
        clear hC4 hC5
        go_wp2_with fail
        have HZ := Lib.hid (Below.refl w23.heap.size w23)
        go_loopw [27, 28] (fun v i wr => ∃ (i0 : Nat) (v0 : Int), i0 ≤ Ln ∧ i = .int .i64 i0 ∧ v = .int .i64 v0 ∧ Hid (∀ j, i0 ≤ j → j < Ln → C j ≤ v0) ∧ Hid (Below w23.heap.size w23 wr)) (fun _ i _ => Ln - (intOf i).toNat)
        case atStart => exact ⟨0, 100, Nat.zero_le _, rfl, rfl, Lib.hid (fun j _ hj => HC2.out j hj), HZ⟩
        case round =>
          clear HZ HC2
          obtain ⟨i0, v0, hi0, rfl, rfl, hv0, HW⟩ := hrel
          by_cases hlt : i0 < Ln
          · have hi00 : (0 : Int) ≤ (i0 : Int) := by omega
            have hi01 : (i0 : Int) < (Ln : Int) := by omega
            go_wp2_with fail
            go_loopw [27, 29] (fun v kk wr2 => ∃ (k : Nat) (v1 : Int), k ≤ q20 ∧ kk = .int .i64 k ∧ v = .int .i64 v1 ∧ Hid (∀ j, i0 ≤ j → j < Ln → C j ≤ v1) ∧ Hid (Below w23.heap.size w23 wr2)) (fun _ kk _ => q20 - (intOf kk).toNat)
            case atStart => exact ⟨0, v0, Nat.zero_le _, rfl, rfl, hv0, HW⟩
            case round =>
              clear hv0 HW
              obtain ⟨k, v1, hk, rfl, rfl, hv1, HW⟩ := hrel
              by_cases hlk : k < q20
              · have hk0 : (0 : Int) ≤ (k : Int) := by omega
                have hk1 : (k : Int) < (q20 : Int) := by omega
                obtain ⟨V, hEV⟩ : ∃ V, vs[k]'(by rw [HV23.out.len]; exact hlk) = V := ⟨_, rfl⟩
                obtain ⟨o, hEO⟩ : ∃ o, L[i0]'(by rw [HI23.out.len]; exact hlt) = o := ⟨_, rfl⟩
                have H3 : Hid (V.id = o → 0 ≤ V.len * V.wid ∧ V.len * V.wid ≤ 24 ∧ V.len * V.wid = C i0) := Lib.hid (fun h => by
                  have := HC3.out i0 k hlt hlk
                  rw [getV (by rw [HV23.out.len]; exact hlk), hEV] at this
                  refine this ?_
                  rw [h, ← hEO, List.getD_eq_getElem?_getD, List.getElem?_eq_getElem (by rw [HI23.out.len]; exact hlt)]
                  rfl)
                obtain ⟨Vi, Vs, Vl, Vb, Vd, Vk⟩ := V
                have HEV := Lib.hid hEV
                have HEO := Lib.hid hEO
                dsimp only at H3
                clear hEV hEO
                obtain ⟨a2, ha2, -, e0, -, e2, e3, -, -⟩ := (HV23.out.below HW.out HV23.out.low).has.vesAt (k := k) (by rw [HV23.out.len]; exact hlk)
                injection ha2 with ha2
                subst ha2
                obtain ⟨a3, ha3, -, e6⟩ := (HI23.out.below HW.out HI23.out.low).has.intAt (k := i0) (by rw [HI23.out.len]; exact hlt)
                injection ha3 with ha3
                subst ha3
                rw [HEV.out] at e0 e2 e3
                rw [HEO.out] at e6
                have E0 := fun (d : Nat) (os : Array Obj) => cell_regrown e0 d os
                have E2 := fun (d : Nat) (os : Array Obj) => cell_regrown e2 d os
                have E3 := fun (d : Nat) (os : Array Obj) => cell_regrown e3 d os
                have E6 := fun (d : Nat) (os : Array Obj) => cell_regrown e6 d os
                clear e0 e2 e3 e6
                by_cases he : Vi = o
                · have hzz : (Vi == o) = true := by simp [he]
                  obtain ⟨h3, h4, h5⟩ := H3.out he
                  have hle := hv1.out i0 (Nat.le_refl _) hlt
                  have hng : ¬ (v1 < Vl * Vb) := by omega
                  clear H3
                  go_wp2_with fail
                  refine wp_region_quiet_below (by kernel_rfl) (by kernel_rfl) ?_
                  repeat (go_big_quiet_step (first | fail))
                  refine wpQuiet_nil ?_
                  intro _ hw'
                  obtain ⟨⟨dq, osq⟩, hw''⟩ := hw'
                  subst hw''
                  have HW1 := Lib.hid (HW.out.trans ((below_regrown wr dq osq).mono HW.out.size))
                  generalize Go.Sort.grow (redrawn wr dq) osq = W1 at HW1 ⊢
                  clear E0 E2 E3 E6
                  obtain ⟨a2, ha2, -, e0, -, e2, e3, -, -⟩ := (HV23.out.below HW1.out HV23.out.low).has.vesAt (k := k) (by rw [HV23.out.len]; exact hlk)
                  injection ha2 with ha2
                  subst ha2
                  obtain ⟨a3, ha3, -, e6⟩ := (HI23.out.below HW1.out HI23.out.low).has.intAt (k := i0) (by rw [HI23.out.len]; exact hlt)
                  injection ha3 with ha3
                  subst ha3
                  rw [HEV.out] at e0 e2 e3
                  rw [HEO.out] at e6
                  have E0 := fun (d : Nat) (os : Array Obj) => cell_regrown e0 d os
                  have E2 := fun (d : Nat) (os : Array Obj) => cell_regrown e2 d os
                  have E3 := fun (d : Nat) (os : Array Obj) => cell_regrown e3 d os
                  have E6 := fun (d : Nat) (os : Array Obj) => cell_regrown e6 d os
                  clear e0 e2 e3 e6
                  go_wp2_with fail
                  refine wp_region_quiet_below (by kernel_rfl) (by kernel_rfl) ?_
                  repeat (go_big_quiet_step (first | fail))
                  refine wpQuiet_nil ?_
                  intro _ hw'
                  obtain ⟨⟨dq, osq⟩, hw''⟩ := hw'
                  subst hw''
                  have HW2 := Lib.hid (HW1.out.trans ((below_regrown W1 dq osq).mono HW1.out.size))
                  generalize Go.Sort.grow (redrawn W1 dq) osq = W2 at HW2 ⊢
                  clear E0 E2 E3 E6
                  obtain ⟨a2, ha2, -, e0, -, e2, e3, -, -⟩ := (HV23.out.below HW2.out HV23.out.low).has.vesAt (k := k) (by rw [HV23.out.len]; exact hlk)
                  injection ha2 with ha2
                  subst ha2
                  obtain ⟨a3, ha3, -, e6⟩ := (HI23.out.below HW2.out HI23.out.low).has.intAt (k := i0) (by rw [HI23.out.len]; exact hlt)
                  injection ha3 with ha3
                  subst ha3
                  rw [HEV.out] at e0 e2 e3
                  rw [HEO.out] at e6
                  have E0 := fun (d : Nat) (os : Array Obj) => cell_regrown e0 d os
                  have E2 := fun (d : Nat) (os : Array Obj) => cell_regrown e2 d os
                  have E3 := fun (d : Nat) (os : Array Obj) => cell_regrown e3 d os
                  have E6 := fun (d : Nat) (os : Array Obj) => cell_regrown e6 d os
                  clear e0 e2 e3 e6
                  go_wp2_with fail
                  refine wp_region_quiet_below (by kernel_rfl) (by kernel_rfl) ?_
                  repeat (go_big_quiet_step (first | fail))
                  refine wpQuiet_nil ?_
                  intro _ hw'
                  obtain ⟨⟨dq, osq⟩, hw''⟩ := hw'
                  subst hw''
                  have HW3 := Lib.hid (HW2.out.trans ((below_regrown W2 dq osq).mono HW2.out.size))
                  go_wp2_with fail
                  go_roundw
                  case rel => exact ⟨k + 1, _, by omega, by go_num, rfl, Lib.hid (fun j h1 h2 => by first | exact HC1.out i0 j h1 h2 | (rw [h5]; exact HC1.out i0 j h1 h2)), HW3⟩
                  case measure => simp [intOf]; omega
                · have hzz : (Vi == o) = false := by simp [he]
                  clear H3
                  go_wp2_with fail
                  refine wp_region_quiet_below (by kernel_rfl) (by kernel_rfl) ?_
                  repeat (go_big_quiet_step (first | fail))
                  refine wpQuiet_nil ?_
                  intro _ hw'
                  obtain ⟨⟨dq, osq⟩, hw''⟩ := hw'
                  subst hw''
                  have HW1 := Lib.hid (HW.out.trans ((below_regrown wr dq osq).mono HW.out.size))
                  go_wp2_with fail
                  go_roundw
                  case rel => exact ⟨k + 1, v1, by omega, by go_num, rfl, hv1, HW1⟩
                  case measure => simp [intOf]; omega
              · obtain rfl : k = q20 := by omega
                go_wp2_with fail
                go_roundw
                case rel => exact ⟨i0 + 1, v1, by omega, by go_num, rfl, Lib.hid (fun j h1 h2 => hv1.out j (by omega) h2), HW⟩
                case measure => simp [intOf]; omega
          · have HB24 := Lib.hid (HB23.out.trans (HW.out.mono HB23.out.size))
            clear HW hv0 HB23 HV23 HI23 HC1 HC3 HLn
            -- the cells of the drawn list
            have D4 := Lib.hid (drawCel_any c (HC.out.on HB24.out))
            clear HC
            go_wp2_with fail
            refine D4.out.mono ?_
            rintro e w30 ⟨g30, c30, q30, vs4, rfl, hq30, hqc30, hvs, hb⟩
            have HB30 := Lib.hid (HB24.out.trans (hb.mono HB24.out.size))
            have HV := Lib.hid hvs
            clear hb D4 HB24 hvs
            obtain ⟨v4, x4, hx4, hv4, hv40⟩ : ∃ (v : Int) (x : Bool), gF vs4 = x ∧ (x = true → v = cel vs4 q30) ∧ (x = false → v = 0) := by
              cases hg : gF vs4 with
              | true => exact ⟨_, true, rfl, fun _ => rfl, by simp⟩
              | false => exact ⟨0, false, rfl, by simp, fun _ => rfl⟩
            have HX4 := Lib.hid hx4
            have HV4 := Lib.hid hv4
            have HV40 := Lib.hid hv40
            have CI := Lib.hid (implCells_any c30 HV.out (by unfold maxLen; omega) hqc30 x4 hx4 v4 hv4 hv40)
            have hvv4 : (v4 == v4) = true := by simp
            have hxx4 : (x4 == x4) = true := by simp
            clear hx4 hv4 hv40
            go_wp2_with fail
            refine CI.out.mono ?_
            rintro e w31 ⟨rfl, hb⟩
            have HB31 := Lib.hid (HB30.out.trans (hb.mono HB30.out.size))
            have HV31 := Lib.hid (HV.out.below hb HV.out.low)
            clear hb HB30 HV CI
            have CS := Lib.hid (specCells_any c30 HV31.out (by unfold maxLen; omega) x4 HX4.out v4 HV4.out HV40.out)
            go_wp2_with fail
            refine CS.out.mono ?_
            rintro e w32 ⟨rfl, hb⟩
            have HB32 := Lib.hid (HB31.out.trans (hb.mono HB31.out.size))
            clear hb HB31 HV31 CS HX4 HV4 HV40
            go_wp2_with fail
            go_ret
            exact ⟨rfl, HB32.out⟩
    | true =>
      obtain ⟨Q1, y1, hQ1, hQ1n⟩ := pasA_ex L1 250 20
      obtain ⟨Q2, y2, hQ2, hQ2n⟩ := pasA_ex M 250 20
      obtain ⟨rfl, rfl, hle, hall⟩ := pas_after HL8.out.len HLi.out hQ1 hQ2
      obtain ⟨k1, hk1⟩ : ∃ k, Q1.length = k := ⟨_, rfl⟩
      obtain ⟨k2, hk2⟩ : ∃ k, Q2.length = k := ⟨_, rfl⟩
      rw [HL8.out.len, hk1] at hQ1n
      rw [HM8.out.len, hk2] at hQ2n
      rw [hk1, hk2] at hle
      have HAll := Lib.hid hall
      have HK2 := Lib.hid hk2
      have HQ2 := Lib.hid hQ2
      have C1 := Lib.hid (pasI_any c1 HL8.out (by unfold maxLen; omega) hqc1 250 20 Q1 true k1 hk1 hQ1)
      have hlt9 : ¬ (k2 < k1) := by omega
      clear hall hQ1 hQ2 hk1 hk2 HLi HMl
      go_wp2_with fail
      refine C1.out.mono ?_
      rintro e w9 ⟨g9, c9, rfl, hv, hb⟩
      have HB9 := Lib.hid (HB8.out.trans (hb.mono HB8.out.size))
      have HM9 := Lib.hid (HM8.out.below hb HM8.out.low)
      have HZ9 := Lib.hid hv
      clear hb hv HB8 HL8 HM8 C1
      have C2 := Lib.hid (pasI_any c2 HM9.out (by unfold maxLen; omega) hMc 250 20 Q2 true k2 HK2.out HQ2.out)
      go_wp2_with fail
      refine C2.out.mono ?_
      rintro e w10 ⟨g10, c10, rfl, hv, hb⟩
      have HB10 := Lib.hid (HB9.out.trans (hb.mono HB9.out.size))
      have HZ10 := Lib.hid (HZ9.out.below hb HZ9.out.low)
      have CH := Lib.hid (fun x hx => rHas_yes c10 hv.len hv.has (by omega) x (HAll.out x hx))
      clear hb hv HB9 HM9 HZ9 C2 HQ2 HK2 HAll
      go_wp2_with fail
      have hP : (k2 < k1) = False := eq_false hlt9
      try simp only [hP, decide_false]
      clear hP hlt9
      go_loopw [21] (fun i wr => ∃ k : Nat, k ≤ k1 ∧ i = .int .i64 k ∧ w10 = wr) (fun i _ => k1 - (intOf i).toNat)
      case atStart => exact ⟨0, Nat.zero_le _, rfl, rfl⟩
      case round =>
        obtain ⟨k, hk, rfl, rfl⟩ := hrel
        by_cases hlt : k < k1
        · obtain ⟨a, ha, -, e0⟩ := HZ10.out.has.intAt (k := k) (by rw [HZ10.out.len]; exact hlt)
          injection ha with ha
          subst ha
          have hmem := Lib.hid (List.getElem_mem (l := Q1) (by rw [HZ10.out.len]; exact hlt))
          generalize Q1[k]'(by rw [HZ10.out.len]; exact hlt) = z at e0 hmem
          have e0' := e0
          rw [addZV] at e0'
          have hk0 : (0 : Int) ≤ (k : Int) := by omega
          have hk9 : (k : Int) < (k1 : Int) := by omega
          go_wp2_with fail
          refine (CH.out z hmem.out).mono ?_
          rintro e w11 ⟨rfl, rfl⟩
          go_wp2_with fail
          go_roundw
          case rel => exact ⟨k + 1, by omega, by go_num, trivial⟩
          case measure => simp [intOf]; omega
        · obtain rfl : k = k1 := by omega
          clear HZ10 CH
          -- the drawn list that is put into an order
          have D3 := Lib.hid (drawOrd_any c (HC.out.on HB10.out))
          go_wp2_with fail
          refine D3.out.mono ?_
          rintro e w20 ⟨g20, c20, q20, vs, rfl, hq20, hqc20, hvs, hb⟩
          have HB20 := Lib.hid (HB10.out.trans (hb.mono HB10.out.size))
          have HV := Lib.hid hvs
          clear hb D3 HB10 hvs
          obtain ⟨L, x3, hL8, hO⟩ := ord_two vs
          obtain ⟨C, hC1, hC2, hC3, hC4, hC5⟩ := ord_cells hO
          obtain ⟨Ln, hLn⟩ : ∃ k, L.length = k := ⟨_, rfl⟩
          rw [hLn] at hL8 hC1 hC2 hC3 hC4 hC5
          rw [HV.out.len] at hC3 hC4
          have HLn := Lib.hid hLn
          have HO := Lib.hid hO
          have HC1 := Lib.hid hC1
          have HC2 := Lib.hid hC2
          have HC3 := Lib.hid hC3
          have CI := Lib.hid (ordI_any c20 HV.out (by unfold maxLen; omega) hqc20 L x3 Ln hLn hO)
          have hxx3 : (x3 != x3) = false := by simp
          clear hO hLn hC1 hC2 hC3
          go_wp2_with fail
          refine CI.out.mono ?_
          rintro e w21 ⟨g21, c21, rfl, hv, hb⟩
          have HB21 := Lib.hid (HB20.out.trans (hb.mono HB20.out.size))
          have HV21 := Lib.hid (HV.out.below hb HV.out.low)
          have HI21 := Lib.hid hv
          clear hb hv HB20 HV CI
          have CS := Lib.hid (ordS_any c20 HV21.out (by unfold maxLen; omega) L x3 Ln HLn.out HO.out)
          go_wp2_with fail
          refine CS.out.mono ?_
          rintro e w22 ⟨g22, c22, rfl, hv, hb⟩
          have HB22 := Lib.hid (HB21.out.trans (hb.mono HB21.out.size))
          have HV22 := Lib.hid (HV21.out.below hb HV21.out.low)
          have HI22 := Lib.hid (HI21.out.below hb HI21.out.low)
          have CR := Lib.hid (rInts_same (some ⟨g21, 0, none⟩) (some ⟨g22, 0, none⟩) Ln c21 c22 _ _ L w22 HLn.out (by unfold maxLen; omega) HI22.out.has hv.has)
          clear hb hv HB21 HV21 HI21 CS HO
          go_wp2_with fail
          refine CR.out.mono ?_
          rintro e w23 ⟨rfl, hd⟩
          have HB23 := Lib.hid (HB22.out.trans ((hd.below w22.heap.size).mono HB22.out.size))
          have HV23 := Lib.hid (HV22.out.below (hd.below w22.heap.size) HV22.out.low)
          have HI23 := Lib.hid (HI22.out.below (hd.below w22.heap.size) HI22.out.low)
          clear hd HB22 HV22 HI22 CR
          obtain ⟨ag, hag⟩ : ∃ a : Addr, (⟨g20, 0, none⟩ : Addr) = a := ⟨_, rfl⟩
          obtain ⟨ao, hao⟩ : ∃ a : Addr, (⟨g21, 0, none⟩ : Addr) = a := ⟨_, rfl⟩
          rw [hag] at HV23
          rw [hao] at HI23
          try simp only [hag, hao]
          clear hag hao
          cases x3 with
          | false =>
            clear hC4 hC5
            go_wp2_with fail
            have HZ := Lib.hid (Below.refl w23.heap.size w23)
            go_loopw [27, 28] (fun v i wr => ∃ (i0 : Nat) (v0 : Int), i0 ≤ Ln ∧ i = .int .i64 i0 ∧ v = .int .i64 v0 ∧ Hid (∀ j, i0 ≤ j → j < Ln → C j ≤ v0) ∧ Hid (Below w23.heap.size w23 wr)) (fun _ i _ => Ln - (intOf i).toNat)
            case atStart => exact ⟨0, 100, Nat.zero_le _, rfl, rfl, Lib.hid (fun j _ hj => HC2.out j hj), HZ⟩
            case round =>
              clear HZ HC2
              obtain ⟨i0, v0, hi0, rfl, rfl, hv0, HW⟩ := hrel
              by_cases hlt : i0 < Ln
              · have hi00 : (0 : Int) ≤ (i0 : Int) := by omega
                have hi01 : (i0 : Int) < (Ln : Int) := by omega
                go_wp2_with fail
                go_loopw [27, 29] (fun v kk wr2 => ∃ (k : Nat) (v1 : Int), k ≤ q20 ∧ kk = .int .i64 k ∧ v = .int .i64 v1 ∧ Hid (∀ j, i0 ≤ j → j < Ln → C j ≤ v1) ∧ Hid (Below w23.heap.size w23 wr2)) (fun _ kk _ => q20 - (intOf kk).toNat)
                case atStart => exact ⟨0, v0, Nat.zero_le _, rfl, rfl, hv0, HW⟩
                case round =>
                  clear hv0 HW
                  obtain ⟨k, v1, hk, rfl, rfl, hv1, HW⟩ := hrel
                  by_cases hlk : k < q20
                  · have hk0 : (0 : Int) ≤ (k : Int) := by omega
                    have hk1 : (k : Int) < (q20 : Int) := by omega
                    obtain ⟨V, hEV⟩ : ∃ V, vs[k]'(by rw [HV23.out.len]; exact hlk) = V := ⟨_, rfl⟩
                    obtain ⟨o, hEO⟩ : ∃ o, L[i0]'(by rw [HI23.out.len]; exact hlt) = o := ⟨_, rfl⟩
                    have H3 : Hid (V.id = o → 0 ≤ V.len * V.wid ∧ V.len * V.wid ≤ 24 ∧ V.len * V.wid = C i0) := Lib.hid (fun h => by
                      have := HC3.out i0 k hlt hlk
                      rw [getV (by rw [HV23.out.len]; exact hlk), hEV] at this
                      refine this ?_
                      rw [h, ← hEO, List.getD_eq_getElem?_getD, List.getElem?_eq_getElem (by rw [HI23.out.len]; exact hlt)]
                      rfl)
                    obtain ⟨Vi, Vs, Vl, Vb, Vd, Vk⟩ := V
                    have HEV := Lib.hid hEV
                    have HEO := Lib.hid hEO
                    dsimp only at H3
                    clear hEV hEO
                    obtain ⟨a2, ha2, -, e0, -, e2, e3, -, -⟩ := (HV23.out.below HW.out HV23.out.low).has.vesAt (k := k) (by rw [HV23.out.len]; exact hlk)
                    injection ha2 with ha2
                    subst ha2
                    obtain ⟨a3, ha3, -, e6⟩ := (HI23.out.below HW.out HI23.out.low).has.intAt (k := i0) (by rw [HI23.out.len]; exact hlt)
                    injection ha3 with ha3
                    subst ha3
                    rw [HEV.out] at e0 e2 e3
                    rw [HEO.out] at e6
                    have E0 := fun (d : Nat) (os : Array Obj) => cell_regrown e0 d os
                    have E2 := fun (d : Nat) (os : Array Obj) => cell_regrown e2 d os
                    have E3 := fun (d : Nat) (os : Array Obj) => cell_regrown e3 d os
                    have E6 := fun (d : Nat) (os : Array Obj) => cell_regrown e6 d os
                    clear e0 e2 e3 e6
                    by_cases he : Vi = o
                    · have hzz : (Vi == o) = true := by simp [he]
                      obtain ⟨h3, h4, h5⟩ := H3.out he
                      have hle := hv1.out i0 (Nat.le_refl _) hlt
                      have hng : ¬ (v1 < Vl * Vb) := by omega
                      clear H3
                      go_wp2_with fail
                      refine wp_region_quiet_below (by kernel_rfl) (by kernel_rfl) ?_
                      repeat (go_big_quiet_step (first | fail))
                      refine wpQuiet_nil ?_
                      intro _ hw'
                      obtain ⟨⟨dq, osq⟩, hw''⟩ := hw'
                      subst hw''
                      have HW1 := Lib.hid (HW.out.trans ((below_regrown wr dq osq).mono HW.out.size))
                      generalize Go.Sort.grow (redrawn wr dq) osq = W1 at HW1 ⊢
                      clear E0 E2 E3 E6
                      obtain ⟨a2, ha2, -, e0, -, e2, e3, -, -⟩ := (HV23.out.below HW1.out HV23.out.low).has.vesAt (k := k) (by rw [HV23.out.len]; exact hlk)
                      injection ha2 with ha2
                      subst ha2
                      obtain ⟨a3, ha3, -, e6⟩ := (HI23.out.below HW1.out HI23.out.low).has.intAt (k := i0) (by rw [HI23.out.len]; exact hlt)
                      injection ha3 with ha3
                      subst ha3
                      rw [HEV.out] at e0 e2 e3
                      rw [HEO.out] at e6
                      have E0 := fun (d : Nat) (os : Array Obj) => cell_regrown e0 d os
                      have E2 := fun (d : Nat) (os : Array Obj) => cell_regrown e2 d os
                      have E3 := fun (d : Nat) (os : Array Obj) => cell_regrown e3 d os
                      have E6 := fun (d : Nat) (os : Array Obj) => cell_regrown e6 d os
                      clear e0 e2 e3 e6
                      go_wp2_with fail
                      refine wp_region_quiet_below (by kernel_rfl) (by kernel_rfl) ?_
                      repeat (go_big_quiet_step (first | fail))
                      refine wpQuiet_nil ?_
                      intro _ hw'
                      obtain ⟨⟨dq, osq⟩, hw''⟩ := hw'
                      subst hw''
                      have HW2 := Lib.hid (HW1.out.trans ((below_regrown W1 dq osq).mono HW1.out.size))
                      generalize Go.Sort.grow (redrawn W1 dq) osq = W2 at HW2 ⊢
                      clear E0 E2 E3 E6
                      obtain ⟨a2, ha2, -, e0, -, e2, e3, -, -⟩ := (HV23.out.below HW2.out HV23.out.low).has.vesAt (k := k) (by rw [HV23.out.len]; exact hlk)
                      injection ha2 with ha2
                      subst ha2
                      obtain ⟨a3, ha3, -, e6⟩ := (HI23.out.below HW2.out HI23.out.low).has.intAt (k := i0) (by rw [HI23.out.len]; exact hlt)
                      injection ha3 with ha3
                      subst ha3
                      rw [HEV.out] at e0 e2 e3
                      rw [HEO.out] at e6
                      have E0 := fun (d : Nat) (os : Array Obj) => cell_regrown e0 d os
                      have E2 := fun (d : Nat) (os : Array Obj) => cell_regrown e2 d os
                      have E3 := fun (d : Nat) (os : Array Obj) => cell_regrown e3 d os
                      have E6 := fun (d : Nat) (os : Array Obj) => cell_regrown e6 d os
                      clear e0 e2 e3 e6
                      go_wp2_with fail
                      refine wp_region_quiet_below (by kernel_rfl) (by kernel_rfl) ?_
                      repeat (go_big_quiet_step (first | fail))
                      refine wpQuiet_nil ?_
                      intro _ hw'
                      obtain ⟨⟨dq, osq⟩, hw''⟩ := hw'
                      subst hw''
                      have HW3 := Lib.hid (HW2.out.trans ((below_regrown W2 dq osq).mono HW2.out.size))
                      go_wp2_with fail
                      go_roundw
                      case rel => exact ⟨k + 1, _, by omega, by go_num, rfl, Lib.hid (fun j h1 h2 => by first | exact HC1.out i0 j h1 h2 | (rw [h5]; exact HC1.out i0 j h1 h2)), HW3⟩
                      case measure => simp [intOf]; omega
                    · have hzz : (Vi == o) = false := by simp [he]
                      clear H3
                      go_wp2_with fail
                      refine wp_region_quiet_below (by kernel_rfl) (by kernel_rfl) ?_
                      repeat (go_big_quiet_step (first | fail))
                      refine wpQuiet_nil ?_
                      intro _ hw'
                      obtain ⟨⟨dq, osq⟩, hw''⟩ := hw'
                      subst hw''
                      have HW1 := Lib.hid (HW.out.trans ((below_regrown wr dq osq).mono HW.out.size))
                      go_wp2_with fail
                      go_roundw
                      case rel => exact ⟨k + 1, v1, by omega, by go_num, rfl, hv1, HW1⟩
                      case measure => simp [intOf]; omega
                  · obtain rfl : k = q20 := by omega
                    go_wp2_with fail
                    go_roundw
                    case rel => exact ⟨i0 + 1, v1, by omega, by go_num, rfl, Lib.hid (fun j h1 h2 => hv1.out j (by omega) h2), HW⟩
                    case measure => simp [intOf]; omega
              · have HB24 := Lib.hid (HB23.out.trans (HW.out.mono HB23.out.size))
                clear HW hv0 HB23 HV23 HI23 HC1 HC3 HLn
                -- the cells of the drawn list
                have D4 := Lib.hid (drawCel_any c (HC.out.on HB24.out))
                clear HC
                go_wp2_with fail
                refine D4.out.mono ?_
                rintro e w30 ⟨g30, c30, q30, vs4, rfl, hq30, hqc30, hvs, hb⟩
                have HB30 := Lib.hid (HB24.out.trans (hb.mono HB24.out.size))
                have HV := Lib.hid hvs
                clear hb D4 HB24 hvs
                obtain ⟨v4, x4, hx4, hv4, hv40⟩ : ∃ (v : Int) (x : Bool), gF vs4 = x ∧ (x = true → v = cel vs4 q30) ∧ (x = false → v = 0) := by
                  cases hg : gF vs4 with
                  | true => exact ⟨_, true, rfl, fun _ => rfl, by simp⟩
                  | false => exact ⟨0, false, rfl, by simp, fun _ => rfl⟩
                have HX4 := Lib.hid hx4
                have HV4 := Lib.hid hv4
                have HV40 := Lib.hid hv40
                have CI := Lib.hid (implCells_any c30 HV.out (by unfold maxLen; omega) hqc30 x4 hx4 v4 hv4 hv40)
                have hvv4 : (v4 == v4) = true := by simp
                have hxx4 : (x4 == x4) = true := by simp
                clear hx4 hv4 hv40
                go_wp2_with fail
                refine CI.out.mono ?_
                rintro e w31 ⟨rfl, hb⟩
                have HB31 := Lib.hid (HB30.out.trans (hb.mono HB30.out.size))
                have HV31 := Lib.hid (HV.out.below hb HV.out.low)
                clear hb HB30 HV CI
                have CS := Lib.hid (specCells_any c30 HV31.out (by unfold maxLen; omega) x4 HX4.out v4 HV4.out HV40.out)
                go_wp2_with fail
                refine CS.out.mono ?_
                rintro e w32 ⟨rfl, hb⟩
                have HB32 := Lib.hid (HB31.out.trans (hb.mono HB31.out.size))
                clear hb HB31 HV31 CS HX4 HV4 HV40
                go_wp2_with fail
                go_ret
                exact ⟨rfl, HB32.out⟩
          | true =>
            have hnq : ((Ln : Int) != (q20 : Int)) = false := by
              have := hC4 rfl
              simp
              omega
            clear hC4 hC5
            go_wp2_with fail
            have HZ := Lib.hid (Below.refl w23.heap.size w23)
            go_loopw [27, 28] (fun v i wr => ∃ (i0 : Nat) (v0 : Int), i0 ≤ Ln ∧ i = .int .i64 i0 ∧ v = .int .i64 v0 ∧ Hid (∀ j, i0 ≤ j → j < Ln → C j ≤ v0) ∧ Hid (Below w23.heap.size w23 wr)) (fun _ i _ => Ln - (intOf i).toNat)
            case atStart => exact ⟨0, 100, Nat.zero_le _, rfl, rfl, Lib.hid (fun j _ hj => HC2.out j hj), HZ⟩
            case round =>
              clear HZ HC2
              obtain ⟨i0, v0, hi0, rfl, rfl, hv0, HW⟩ := hrel
              by_cases hlt : i0 < Ln
              · have hi00 : (0 : Int) ≤ (i0 : Int) := by omega
                have hi01 : (i0 : Int) < (Ln : Int) := by omega
                go_wp2_with fail
                go_loopw [27, 29] (fun v kk wr2 => ∃ (k : Nat) (v1 : Int), k ≤ q20 ∧ kk = .int .i64 k ∧ v = .int .i64 v1 ∧ Hid (∀ j, i0 ≤ j → j < Ln → C j ≤ v1) ∧ Hid (Below w23.heap.size w23 wr2)) (fun _ kk _ => q20 - (intOf kk).toNat)
                case atStart => exact ⟨0, v0, Nat.zero_le _, rfl, rfl, hv0, HW⟩
                case round =>
                  clear hv0 HW
                  obtain ⟨k, v1, hk, rfl, rfl, hv1, HW⟩ := hrel
                  by_cases hlk : k < q20
                  · have hk0 : (0 : Int) ≤ (k : Int) := by omega
                    have hk1 : (k : Int) < (q20 : Int) := by omega
                    obtain ⟨V, hEV⟩ : ∃ V, vs[k]'(by rw [HV23.out.len]; exact hlk) = V := ⟨_, rfl⟩
                    obtain ⟨o, hEO⟩ : ∃ o, L[i0]'(by rw [HI23.out.len]; exact hlt) = o := ⟨_, rfl⟩
                    have H3 : Hid (V.id = o → 0 ≤ V.len * V.wid ∧ V.len * V.wid ≤ 24 ∧ V.len * V.wid = C i0) := Lib.hid (fun h => by
                      have := HC3.out i0 k hlt hlk
                      rw [getV (by rw [HV23.out.len]; exact hlk), hEV] at this
                      refine this ?_
                      rw [h, ← hEO, List.getD_eq_getElem?_getD, List.getElem?_eq_getElem (by rw [HI23.out.len]; exact hlt)]
                      rfl)
                    obtain ⟨Vi, Vs, Vl, Vb, Vd, Vk⟩ := V
                    have HEV := Lib.hid hEV
                    have HEO := Lib.hid hEO
                    dsimp only at H3
                    clear hEV hEO
                    obtain ⟨a2, ha2, -, e0, -, e2, e3, -, -⟩ := (HV23.out.below HW.out HV23.out.low).has.vesAt (k := k) (by rw [HV23.out.len]; exact hlk)
                    injection ha2 with ha2
                    subst ha2
                    obtain ⟨a3, ha3, -, e6⟩ := (HI23.out.below HW.out HI23.out.low).has.intAt (k := i0) (by rw [HI23.out.len]; exact hlt)
                    injection ha3 with ha3
                    subst ha3
                    rw [HEV.out] at e0 e2 e3
                    rw [HEO.out] at e6
                    have E0 := fun (d : Nat) (os : Array Obj) => cell_regrown e0 d os
                    have E2 := fun (d : Nat) (os : Array Obj) => cell_regrown e2 d os
                    have E3 := fun (d : Nat) (os : Array Obj) => cell_regrown e3 d os
                    have E6 := fun (d : Nat) (os : Array Obj) => cell_regrown e6 d os
                    clear e0 e2 e3 e6
                    by_cases he : Vi = o
                    · have hzz : (Vi == o) = true := by simp [he]
                      obtain ⟨h3, h4, h5⟩ := H3.out he
                      have hle := hv1.out i0 (Nat.le_refl _) hlt
                      have hng : ¬ (v1 < Vl * Vb) := by omega
                      clear H3
                      go_wp2_with fail
                      refine wp_region_quiet_below (by kernel_rfl) (by kernel_rfl) ?_
                      repeat (go_big_quiet_step (first | fail))
                      refine wpQuiet_nil ?_
                      intro _ hw'
                      obtain ⟨⟨dq, osq⟩, hw''⟩ := hw'
                      subst hw''
                      have HW1 := Lib.hid (HW.out.trans ((below_regrown wr dq osq).mono HW.out.size))
                      generalize Go.Sort.grow (redrawn wr dq) osq = W1 at HW1 ⊢
                      clear E0 E2 E3 E6
                      obtain ⟨a2, ha2, -, e0, -, e2, e3, -, -⟩ := (HV23.out.below HW1.out HV23.out.low).has.vesAt (k := k) (by rw [HV23.out.len]; exact hlk)
                      injection ha2 with ha2
                      subst ha2
                      obtain ⟨a3, ha3, -, e6⟩ := (HI23.out.below HW1.out HI23.out.low).has.intAt (k := i0) (by rw [HI23.out.len]; exact hlt)
                      injection ha3 with ha3
                      subst ha3
                      rw [HEV.out] at e0 e2 e3
                      rw [HEO.out] at e6
                      have E0 := fun (d : Nat) (os : Array Obj) => cell_regrown e0 d os
                      have E2 := fun (d : Nat) (os : Array Obj) => cell_regrown e2 d os
                      have E3 := fun (d : Nat) (os : Array Obj) => cell_regrown e3 d os
                      have E6 := fun (d : Nat) (os : Array Obj) => cell_regrown e6 d os
                      clear e0 e2 e3 e6
                      go_wp2_with fail
                      refine wp_region_quiet_below (by kernel_rfl) (by kernel_rfl) ?_
                      repeat (go_big_quiet_step (first | fail))
                      refine wpQuiet_nil ?_
                      intro _ hw'
                      obtain ⟨⟨dq, osq⟩, hw''⟩ := hw'
                      subst hw''
                      have HW2 := Lib.hid (HW1.out.trans ((below_regrown W1 dq osq).mono HW1.out.size))
                      generalize Go.Sort.grow (redrawn W1 dq) osq = W2 at HW2 ⊢
                      clear E0 E2 E3 E6
                      obtain ⟨a2, ha2, -, e0, -, e2, e3, -, -⟩ := (HV23.out.below HW2.out HV23.out.low).has.vesAt (k := k) (by rw [HV23.out.len]; exact hlk)
                      injection ha2 with ha2
                      subst ha2
                      obtain ⟨a3, ha3, -, e6⟩ := (HI23.out.below HW2.out HI23.out.low).has.intAt (k := i0) (by rw [HI23.out.len]; exact hlt)
                      injection ha3 with ha3
                      subst ha3
                      rw [HEV.out] at e0 e2 e3
                      rw [HEO.out] at e6
                      have E0 := fun (d : Nat) (os : Array Obj) => cell_regrown e0 d os
                      have E2 := fun (d : Nat) (os : Array Obj) => cell_regrown e2 d os
                      have E3 := fun (d : Nat) (os : Array Obj) => cell_regrown e3 d os
                      have E6 := fun (d : Nat) (os : Array Obj) => cell_regrown e6 d os
                      clear e0 e2 e3 e6
                      go_wp2_with fail
                      refine wp_region_quiet_below (by kernel_rfl) (by kernel_rfl) ?_
                      repeat (go_big_quiet_step (first | fail))
                      refine wpQuiet_nil ?_
                      intro _ hw'
                      obtain ⟨⟨dq, osq⟩, hw''⟩ := hw'
                      subst hw''
                      have HW3 := Lib.hid (HW2.out.trans ((below_regrown W2 dq osq).mono HW2.out.size))
                      go_wp2_with fail
                      go_roundw
                      case rel => exact ⟨k + 1, _, by omega, by go_num, rfl, Lib.hid (fun j h1 h2 => by first | exact HC1.out i0 j h1 h2 | (rw [h5]; exact HC1.out i0 j h1 h2)), HW3⟩
                      case measure => simp [intOf]; omega
                    · have hzz : (Vi == o) = false := by simp [he]
                      clear H3
                      go_wp2_with fail
                      refine wp_region_quiet_below (by kernel_rfl) (by kernel_rfl) ?_
                      repeat (go_big_quiet_step (first | fail))
                      refine wpQuiet_nil ?_
                      intro _ hw'
                      obtain ⟨⟨dq, osq⟩, hw''⟩ := hw'
                      subst hw''
                      have HW1 := Lib.hid (HW.out.trans ((below_regrown wr dq osq).mono HW.out.size))
                      go_wp2_with fail
                      go_roundw
                      case rel => exact ⟨k + 1, v1, by omega, by go_num, rfl, hv1, HW1⟩
                      case measure => simp [intOf]; omega
                  · obtain rfl : k = q20 := by omega
                    go_wp2_with fail
                    go_roundw
                    case rel => exact ⟨i0 + 1, v1, by omega, by go_num, rfl, Lib.hid (fun j h1 h2 => hv1.out j (by omega) h2), HW⟩
                    case measure => simp [intOf]; omega
              · have HB24 := Lib.hid (HB23.out.trans (HW.out.mono HB23.out.size))
                clear HW hv0 HB23 HV23 HI23 HC1 HC3 HLn
                -- the cells of the drawn list
                have D4 := Lib.hid (drawCel_any c (HC.out.on HB24.out))
                clear HC
                go_wp2_with fail
                refine D4.out.mono ?_
                rintro e w30 ⟨g30, c30, q30, vs4, rfl, hq30, hqc30, hvs, hb⟩
                have HB30 := Lib.hid (HB24.out.trans (hb.mono HB24.out.size))
                have HV := Lib.hid hvs
                clear hb D4 HB24 hvs
                obtain ⟨v4, x4, hx4, hv4, hv40⟩ : ∃ (v : Int) (x : Bool), gF vs4 = x ∧ (x = true → v = cel vs4 q30) ∧ (x = false → v = 0) := by
                  cases hg : gF vs4 with
                  | true => exact ⟨_, true, rfl, fun _ => rfl, by simp⟩
                  | false => exact ⟨0, false, rfl, by simp, fun _ => rfl⟩
                have HX4 := Lib.hid hx4
                have HV4 := Lib.hid hv4
                have HV40 := Lib.hid hv40
                have CI := Lib.hid (implCells_any c30 HV.out (by unfold maxLen; omega) hqc30 x4 hx4 v4 hv4 hv40)
                have hvv4 : (v4 == v4) = true := by simp
                have hxx4 : (x4 == x4) = true := by simp
                clear hx4 hv4 hv40
                go_wp2_with fail
                refine CI.out.mono ?_
                rintro e w31 ⟨rfl, hb⟩
                have HB31 := Lib.hid (HB30.out.trans (hb.mono HB30.out.size))
                have HV31 := Lib.hid (HV.out.below hb HV.out.low)
                clear hb HB30 HV CI
                have CS := Lib.hid (specCells_any c30 HV31.out (by unfold maxLen; omega) x4 HX4.out v4 HV4.out HV40.out)
                go_wp2_with fail
                refine CS.out.mono ?_
                rintro e w32 ⟨rfl, hb⟩
                have HB32 := Lib.hid (HB31.out.trans (hb.mono HB31.out.size))
                clear hb HB31 HV31 CS HX4 HV4 HV40
                go_wp2_with fail
                go_ret
                exact ⟨rfl, HB32.out⟩
theorem own : ownKnob Try.prog.godebug = none := by kernel_rfl
theorem laidOut : laidOutB Try.prog = true := by kernel_rfl

set_option maxRecDepth 100000 in
theorem lifted (os : Os) (started : os.Started) (H : Type) (enc : TypeId × Value → H) :
    ReturnsInHanded {} Try.checked os 3 .any (Rows.fnDepthsSpec.pre6 enc Try.prog Try.f3 Rows.fnDepthsRow.domain false) (Rows.fnDepthsSpec.post enc Try.prog Try.f3 false true false false) := by
  refine returnsInHanded_of_change (C := Try.checked) own started (by kernel_rfl) Try.func3
    (ChangeSpec.witness6 (enc := enc) (C := Try.checked) false ⟨#[], #[.slice none 0 0], []⟩ 8 (by kernel_rfl) (by kernel_rfl) (by kernel_rfl) (by kernel_rfl)) ?_
  intro W base args ds gs before hval0 hW hcnd _
  have hval : ∀ (j : Nat) t v, Try.f3.params[j]? = some t → args[j]? = some v → Value.okWide Try.prog W .any base t v := hval0
  have hW' := hW
  obtain ⟨p, q, hA0, hV, rfl, hfz, hnd⟩ := hW
  have hA : DataW.TrodAll enc Try.prog W 0 (fun _ => true) true Try.f3.params.toList args.toList ds p := hA0
  rw [Try.params3] at hA hval
  obtain ⟨v0, vs0, d0, ds0, p0, q0, hargs, rfl, rfl, h0, r0⟩ := trodAll_cons hA
  obtain ⟨rfl, rfl, rfl⟩ := trodAll_nil r0
  obtain rfl : args = #[v0] := by cases args; simp_all
  obtain ⟨rfl, rfl⟩ := trodVars_none hV
  obtain ⟨a0, len0, cap0, rfl⟩ := okWide_slice Try.underlying22 (hval 0 22 v0 rfl rfl)
  have k0 := h0
  have lt0 : ∀ x ∈ p0, x.block < W.heap.size := by obtain ⟨m, hm⟩ := k0; exact DataW.trod_lt m _ _ _ hm
  obtain ⟨z0, w0⟩ : ∃ zs, IsInts .u8 W a0 len0 zs := by
    obtain ⟨fuel, hf⟩ := h0
    rcases open_ints Try.underlying22 Try.underlying5 (by kernel_rfl) hf with ⟨hcs, _⟩ | ⟨x, l, c, zs, hcs, _, hl, hm, hz, _, hcell, hwz⟩
    · simp [Value.cells] at hcs
      obtain ⟨rfl, rfl, rfl⟩ := hcs
      exact ⟨[], isInts_nil _ W⟩
    · simp [Value.cells] at hcs
      obtain ⟨rfl, rfl, rfl⟩ := hcs
      exact ⟨_, isInts_some hl hm (by simpa using hz) hcell hwz⟩
  clear hA0 hval0
  refine (walk a0 len0 cap0 z0 W w0).mono fun e W' ⟨he, bel⟩ => ?_
  subst he
  exact ⟨_, rfl, _, _, _, [], _, [], hW', trodAll_mk1 (shut_bool Try.underlying4 _), (trodAll_cons_mk (Below.trod laidOut (by kernel_rfl) (of_decide_eq_true (by kernel_rfl)) k0 bel lt0) trodAll_mk0), rfl, bel.frame _, fun h => by cases h⟩

theorem over : Rows.fnDepthsRow.holds Try.pinned (OpenSpec.ofChange Rows.fnDepthsSpec) :=
  OpenClaim.holds_of_wide 3 Try.f3 rfl rfl rfl rfl rfl rfl rfl ⟨rfl, rfl, rfl, rfl, rfl⟩ rfl rfl rfl rfl rfl (by kernel_rfl) Try.func3 (by kernel_rfl)
    (of_decide_eq_true (by kernel_rfl)) (by unfold Func.isWrapper; first | (rw [if_pos (by decide +kernel)]; kernel_rfl) | (rw [if_neg (by decide +kernel)]; exact ⟨rfl, rfl⟩))
    (fun os started H enc _ => lifted os started H enc)

/-- The statement. -/
theorem proved : Rows.FnDepthsSaid := over
end Go.Proofs.Yteeljlpbijmhlab.fnDepths
