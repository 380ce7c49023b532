/- FnPackings holds: the first packing is one, no vessel covers a cell twice, and the picture shows as many letters as cells are covered; at every list of bytes. -/
import Derived.Test.YtdleidlmjliapaaPkN
import Derived.Test.YtdleidlmjliapaaPkO
import Derived.Test.YtdleidlmjliapaaCgG
import Derived.Test.YtdleidlmjliapaaChPi
import Derived.Test.YtdleidlmjliapaaBig
import Derived.Test.YtdleidlmjliapaaSt0
import Derived.OpenShut
import Derived.ShutString
import Derived.ChangeOld
import Derived.WalkLawsBesides
import Derived.Lib.SmallJoins
import Derived.Deep.RegionHeld3
namespace Go.Proofs.Ytdleidlmjliapaa.fnPackings
open Go.ChangeShapes Go.WideShapes Go.ChangeAt Go.RowKit
open Go.ChangeMaps (open_string shut_string)
open Go.PlainAid (bt bt_nonneg bt_le get_bt)
set_option linter.unusedVariables false
set_option linter.unusedSimpArgs false

theorem addK (g o j : Nat) : (⟨g, o, none⟩ : Addr).add j = ⟨g, o + j, none⟩ := by unfold Addr.add; split <;> simp_all
theorem lexS_step {L ss : List TSpot} (h : lexS L ss) {k : Nat} (hk : k < ss.length) (he : ∀ j, j < k → L.getD j noSpot = ss.getD j noSpot) :
    ((L.getD k noSpot).x0 = (ss.getD k noSpot).x0 ∧ (L.getD k noSpot).x1 = (ss.getD k noSpot).x1 ∧ ∀ j, j < k + 1 → L.getD j noSpot = ss.getD j noSpot) ∨ ((L.getD k noSpot).x0 = (ss.getD k noSpot).x0 ∧ (L.getD k noSpot).x1 < (ss.getD k noSpot).x1) ∨ (L.getD k noSpot).x0 < (ss.getD k noSpot).x0 := by
  rcases lexS_at h k hk he with e | e
  · refine .inl ⟨by rw [e], by rw [e], fun j hj => ?_⟩
    rcases Nat.lt_succ_iff_lt_or_eq.1 hj with g | rfl
    · exact he j g
    · exact e
  · unfold befS at e
    omega
set_option maxRecDepth 100000 in
set_option maxHeartbeats 16000000 in
theorem walk (A : Option Addr) (n c : Nat) (zs : List Int) (w : World) (hI : IsInts .u8 w A n zs) :
    Calls Try.prog 3 #[.slice A n c] w fun e w' => e = .returned (.bool true) ∧ Below w.heap.size w w' := by
  by_cases hbig : 65536 < n
  · have CB := Lib.hid (bigL_yes A n c w hbig hI.2.1)
    clear hI
    go_enter Try.func3, Try.ntmps3
    go_wp2_with fail
    refine CB.out.mono ?_
    rintro e w1 ⟨rfl, rfl⟩
    go_wp2_with fail
    go_ret
    exact ⟨rfl, Below.refl _ _⟩
  · have CB := Lib.hid (bigL_no A n c w (by omega))
    have HC := Lib.hid (Code_.of hI (by omega))
    have D1 := Lib.hid (drawFirst_any c HC.out)
    clear hI hbig
    go_enter Try.func3, Try.ntmps3
    go_wp2_with fail
    refine CB.out.mono ?_
    rintro e w1 ⟨rfl, rfl⟩
    clear CB
    go_wp2_with fail
    refine D1.out.mono ?_
    rintro e w1 ⟨l, d, g1, q, c1, vs, rfl, hq, hqc, -, hov, hb⟩
    have hb2 := below1x w1 (.cells #[.int .i64 l, .int .i64 d] 25)
    have HB1 := Lib.hid (hb.trans (hb2.mono hb.size))
    have hV := own_Hulls hov
    have HV1 := Lib.hid (hV.below hb2 hV.low)
    have BX1 := Lib.hid (BoxM.new w1 l d)
    obtain ⟨L, x, hA⟩ := firstA_ex ⟨l, d⟩ vs
    have hl4 := hA.len
    have HA := Lib.hid hA
    obtain ⟨lL, hlL⟩ : ∃ k, L.length = k := ⟨_, rfl⟩
    have HLL := Lib.hid hlL
    have hl44 : lL ≤ 4 := by rw [← hlL]; exact hl4
    have hxx : (x != x) = false := by simp
    obtain ⟨gv, hgv⟩ : ∃ gv, gHs vs = gv := ⟨_, rfl⟩
    have HGV := Lib.hid hgv
    have hgg : (gv != gv) = false := by simp
    clear D1 hov hb hb2 hV hA hl4 hlL hgv
    go_wp2_with fail
    obtain ⟨w2, hw2⟩ : ∃ W, (w1.alloc (.cells #[.int .i64 l, .int .i64 d] 25)) = W := ⟨_, rfl⟩
    obtain ⟨xb, hxb⟩ : ∃ x, w1.heap.size = x := ⟨_, rfl⟩
    rw [hw2] at HV1 BX1 HB1
    (try rw [hw2])
    rw [hxb] at BX1
    try simp only [hxb]
    clear hw2 hxb
    have y0 := BX1.out.c0
    have y1 := BX1.out.c1
    go_wp2_with fail
    refine (firstI_any l d c1 HV1.out (by omega) hqc L x HA.out).mono ?_
    rintro e w3 ⟨g3, c3, rfl, ho, hb⟩
    rw [HLL.out] at ho ⊢
    have HB2 := Lib.hid (HB1.out.trans (hb.mono HB1.out.size))
    have HV2 := Lib.hid (HV1.out.below hb HV1.out.low)
    have HS2 := Lib.hid (own_Spots ho)
    have BX2 := Lib.hid (BX1.out.all hb)
    clear hb ho HB1 HV1 BX1 y0 y1
    have y0 := BX2.out.c0
    have y1 := BX2.out.c1
    go_wp2_with fail
    refine (firstS_any l d c1 HV2.out (by omega) L x HA.out).mono ?_
    rintro e w4 ⟨g4, c4, rfl, ho, hb⟩
    rw [HLL.out] at ho ⊢
    have HB3 := Lib.hid (HB2.out.trans (hb.mono HB2.out.size))
    have HV3 := Lib.hid (HV2.out.below hb HV2.out.low)
    have HS3 := Lib.hid (HS2.out.below hb HS2.out.low)
    have HW3 := Lib.hid (own_Spots ho)
    have BX3 := Lib.hid (BX2.out.all hb)
    clear hb ho HB2 HV2 HS2 BX2 y0 y1
    go_wp2_with fail
    refine (vSpots_same c3 c4 HS3.out HW3.out (by unfold maxLen; omega)).mono ?_
    rintro e w5 ⟨rfl, hb⟩
    have HB4 := Lib.hid (HB3.out.trans (hb.mono HB3.out.size))
    have HV4 := Lib.hid (HV3.out.below hb HV3.out.low)
    have HS4 := Lib.hid (HS3.out.below hb HS3.out.low)
    have BX4 := Lib.hid (BX3.out.all hb)
    have CI := Lib.hid (areHulls_any c1 HV4.out (by unfold maxLen; omega))
    rw [HGV.out] at CI
    clear hb HB3 HV3 HS3 HW3 BX3
    go_wp2_with fail
    refine CI.out.mono ?_
    rintro e w5 ⟨rfl, hb⟩
    have HB5 := Lib.hid (HB4.out.trans (hb.mono HB4.out.size))
    have HV5 := Lib.hid (HV4.out.below hb HV4.out.low)
    have HS5 := Lib.hid (HS4.out.below hb HS4.out.low)
    have BX5 := Lib.hid (BX4.out.all hb)
    clear hb HB4 HV4 HS4 BX4
    have CS := Lib.hid (areHullsS_any c1 HV5.out (by omega))
    rw [HGV.out] at CS
    clear CI
    go_wp2_with fail
    refine CS.out.mono ?_
    rintro e w6 ⟨rfl, hb⟩
    have HB6 := Lib.hid (HB5.out.trans (hb.mono HB5.out.size))
    have HV6 := Lib.hid (HV5.out.below hb HV5.out.low)
    have HS6 := Lib.hid (HS5.out.below hb HS5.out.low)
    have BX6 := Lib.hid (BX5.out.all hb)
    clear hb HB5 HV5 HS5 BX5
    clear CS HGV
    cases x with
    | false =>
      clear HV6 HS6 BX6 HA HLL
      have D2 := Lib.hid (drawCov_any c (HC.out.on HB6.out))
      go_wp2_with fail
      refine D2.out.mono ?_
      rintro e w20 ⟨l2, d2, gH, qH, c4, hs, gS, qS, c5, ss, rfl, hq4, hqc4, hq5, hqc5, -, -, hV, hS, hb⟩
      have HB20 := Lib.hid (HB6.out.trans (hb.mono HB6.out.size))
      have hb2 := below1x w20 (.cells #[.int .i64 l2, .int .i64 d2] 25)
      have HB21 := Lib.hid (HB20.out.trans (hb2.mono HB20.out.size))
      have HV21 := Lib.hid (hV.below hb2 hV.low)
      have HS21 := Lib.hid (hS.below hb2 hS.low)
      have BX21 := Lib.hid (BoxM.new w20 l2 d2)
      clear D2 hV hS hb hb2 HB20 HB6
      obtain ⟨x2, y2, t, hCV⟩ := covA_ex ⟨l2, d2⟩ hs ss
      obtain ⟨P, t', hPI⟩ := picA_ex ⟨l2, d2⟩ hs ss
      obtain ⟨rfl, htg, hcn, hp21, htold⟩ := pic_all hCV hPI
      have HCV := Lib.hid hCV
      have HPI := Lib.hid hPI
      have HCN := Lib.hid hcn
      have HTG := Lib.hid htg
      have HTO := Lib.hid htold
      have hxx2 : (x2 != x2) = false := by simp
      have hyy2 : (y2 != y2) = false := by simp
      have htt2 : (t' != t') = false := by simp
      clear hCV hPI hcn htg htold
      go_wp2_with fail
      obtain ⟨w21, hw21⟩ : ∃ W, (w20.alloc (.cells #[.int .i64 l2, .int .i64 d2] 25)) = W := ⟨_, rfl⟩
      obtain ⟨xf, hxf⟩ : ∃ x, w20.heap.size = x := ⟨_, rfl⟩
      rw [hw21] at HV21 HS21 BX21 HB21
      (try rw [hw21])
      rw [hxf] at BX21
      try simp only [hxf]
      clear hw21 hxf
      have y0 := BX21.out.c0
      have y1 := BX21.out.c1
      go_wp2_with fail
      refine (covI_any l2 d2 c4 c5 HV21.out HS21.out (by omega) (by omega) x2 y2 t' HCV.out).mono ?_
      rintro e w22 ⟨rfl, hb⟩
      have HB22 := Lib.hid (HB21.out.trans (hb.mono HB21.out.size))
      have HV22 := Lib.hid (HV21.out.below hb HV21.out.low)
      have HS22 := Lib.hid (HS21.out.below hb HS21.out.low)
      have BX22 := Lib.hid (BX21.out.all hb)
      clear hb HB21 HV21 HS21 BX21
      clear y0 y1
      have y0 := BX22.out.c0
      have y1 := BX22.out.c1
      go_wp2_with fail
      refine (covS_any l2 d2 c4 c5 HV22.out HS22.out (by omega) (by omega) x2 y2 t' HCV.out).mono ?_
      rintro e w23 ⟨rfl, hb⟩
      have HB23 := Lib.hid (HB22.out.trans (hb.mono HB22.out.size))
      have HV23 := Lib.hid (HV22.out.below hb HV22.out.low)
      have HS23 := Lib.hid (HS22.out.below hb HS22.out.low)
      have BX23 := Lib.hid (BX22.out.all hb)
      clear hb HB22 HV22 HS22 BX22
      clear y0 y1
      have y0 := BX23.out.c0
      have y1 := BX23.out.c1
      have CPI := Lib.hid (isPacking_any l2 d2 c4 c5 HV23.out HS23.out (by omega) (by omega))
      rw [← HTG.out] at CPI
      go_wp2_with fail
      refine CPI.out.mono ?_
      rintro e w24 ⟨rfl, hb⟩
      have HB24 := Lib.hid (HB23.out.trans (hb.mono HB23.out.size))
      have HV24 := Lib.hid (HV23.out.below hb HV23.out.low)
      have HS24 := Lib.hid (HS23.out.below hb HS23.out.low)
      have BX24 := Lib.hid (BX23.out.all hb)
      clear hb HB23 HV23 HS23 BX23
      clear y0 y1 CPI
      have y0 := BX24.out.c0
      have y1 := BX24.out.c1
      have CPS := Lib.hid (isPackS_any l2 d2 c4 c5 HV24.out HS24.out (by omega) (by omega))
      rw [← HTG.out] at CPS
      go_wp2_with fail
      refine CPS.out.mono ?_
      rintro e w25 ⟨rfl, hb⟩
      have HB25 := Lib.hid (HB24.out.trans (hb.mono HB24.out.size))
      have HV25 := Lib.hid (HV24.out.below hb HV24.out.low)
      have HS25 := Lib.hid (HS24.out.below hb HS24.out.low)
      have BX25 := Lib.hid (BX24.out.all hb)
      clear hb HB24 HV24 HS24 BX24
      clear y0 y1 CPS HTG HCV
      cases t' with
      | false =>
        clear HTO
        have y0 := BX25.out.c0
        have y1 := BX25.out.c1
        go_wp2_with fail
        refine (picI_any l2 d2 c4 c5 HV25.out HS25.out (by omega) (by omega) P _ HPI.out).mono ?_
        rintro e w60 ⟨rfl, hb⟩
        have HB60 := Lib.hid (HB25.out.trans (hb.mono HB25.out.size))
        have HV60 := Lib.hid (HV25.out.below hb HV25.out.low)
        have HS60 := Lib.hid (HS25.out.below hb HS25.out.low)
        have BX60 := Lib.hid (BX25.out.all hb)
        clear hb y0 y1 HB25 HV25 HS25 BX25
        have y0 := BX60.out.c0
        have y1 := BX60.out.c1
        go_wp2_with fail
        refine (picS_any l2 d2 c4 c5 HV60.out HS60.out (by omega) (by omega) P _ HPI.out).mono ?_
        rintro e w61 ⟨rfl, hb⟩
        have HB61 := Lib.hid (HB60.out.trans (hb.mono HB60.out.size))
        clear hb y0 y1 HB60 HV60 HS60 BX60 HPI
        go_wp2_with fail
        go_loopw [27, 28] (fun s v wr => ∃ k : Nat, k ≤ P.size ∧ v = .int .i64 k ∧ s = .int .i64 (cntL P k) ∧ Below w.heap.size w wr) (fun _ v _ => P.size - (intOf v).toNat)
        case atStart => exact ⟨0, Nat.zero_le _, rfl, rfl, HB61.out⟩
        case round =>
          clear HB61
          obtain ⟨k, hk, rfl, rfl, hbw⟩ := hrel
          have HBW := Lib.hid hbw
          obtain ⟨n0, n1⟩ := cntL_bd P k
          have b0 := bt_nonneg P k
          have b1 := bt_le P k
          have hgb := get_bt P
          clear hbw
          by_cases hlt : k < P.size
          · have hs := cntL_succ P k hlt
            rw [hgb k hlt] at hs
            have HSC := Lib.hid hs
            clear hs
            by_cases h97 : 97 ≤ bt P k
            · by_cases h100 : bt P k ≤ 100
              · go_wp2_with fail
                go_roundw
                case rel => exact ⟨k + 1, by omega, by go_num, by rw [HSC.out, if_pos ⟨h97, h100⟩], HBW.out⟩
                case measure => simp [intOf]; omega
              · go_wp2_with fail
                go_roundw
                case rel => exact ⟨k + 1, by omega, by go_num, by rw [HSC.out, if_neg (fun g => h100 g.2), Int.add_zero], HBW.out⟩
                case measure => simp [intOf]; omega
            · go_wp2_with fail
              go_roundw
              case rel => exact ⟨k + 1, by omega, by go_num, by rw [HSC.out, if_neg (fun g => h97 g.1), Int.add_zero], HBW.out⟩
              case measure => simp [intOf]; omega
          · obtain rfl : k = P.size := by omega
            have hfin := HCN.out
            rw [hfin]
            clear n0 n1 b0 b1 hgb
            have hxx : (x2 == x2) = true := by simp
            go_wp2_with fail
            go_ret
            exact ⟨rfl, HBW.out⟩
      | true =>
        obtain ⟨hx2, hy2, hpk⟩ := HTO.out rfl
        obtain ⟨L2, x3, hA2⟩ := firstA_ex ⟨l2, d2⟩ hs
        obtain ⟨rfl, hl2, hlex⟩ := first_least hpk hA2
        have hqq : qS = qH := by rw [← HS25.out.len, ← HV25.out.len]; exact hpk.2.2.1
        subst hqq
        have hL2 : L2.length = qS := by rw [hl2]; exact HS25.out.len
        have h4 : qS ≤ 4 := by rw [← HV25.out.len]; exact hpk.2.1.1
        have hmb := mulC_bd hpk.1
        have hxb := celH_bd (goodHs_all hpk.2.1) hs.length (Nat.le_refl _)
        rw [← hx2] at hxb
        rw [HV25.out.len] at hxb hx2
        dsimp only at hmb hy2
        have HX2 := Lib.hid hx2
        have HPK := Lib.hid hpk
        have HA2 := Lib.hid hA2
        have HLX := Lib.hid hlex
        have HL2 := Lib.hid hL2
        clear HTO hpk hA2 hlex hl2 hx2 hL2
        go_wp2_with fail
        go_loopw [18, 19] (fun s v wr => ∃ k : Nat, k ≤ qS ∧ v = .int .i64 k ∧ s = .int .i64 (celH hs k) ∧ Below w.heap.size w wr ∧ Below w25.heap.size w25 wr) (fun _ v _ => qS - (intOf v).toNat)
        case atStart => exact ⟨0, Nat.zero_le _, rfl, rfl, HB25.out, Below.refl _ _⟩
        case round =>
          clear HB25
          obtain ⟨k, hk, rfl, rfl, hbw, hbq⟩ := hrel
          have HBW := Lib.hid hbw
          have HBQ := Lib.hid hbq
          clear hbw hbq
          by_cases hlt : k < qS
          · have hcb := celH_bd (goodHs_all HPK.out.2.1) k (by rw [HV25.out.len]; omega)
            obtain ⟨aU, eU, -, hUc⟩ := (HV25.out.below HBQ.out HV25.out.low).has.Hull (k := k) (by rw [HV25.out.len]; exact hlt)
            injection eU with eU
            subst eU
            have u1 := hUc.c1
            have u2 := hUc.c2
            simp only [addK, Nat.zero_add] at u1 u2
            have hgd := (HPK.out.2.1.2 k (by rw [HV25.out.len]; exact hlt)).1
            have hcl := cellH_bd hgd
            have HSU : Hid (celH hs (k + 1) = celH hs k + (hs.getD k noHull).x1 * (hs.getD k noHull).x2) := Lib.hid rfl
            obtain ⟨-, hg1, hg2⟩ := hgd
            generalize (hs.getD k noHull).x1 = v1 at u1 hcl HSU hg1
            generalize (hs.getD k noHull).x2 = v2 at u2 hcl HSU hg2
            generalize celH hs k = s at hcb HSU ⊢
            have U1 := fun (d : Nat) (os : Array Obj) => cell_regrown u1 d os
            have U2 := fun (d : Nat) (os : Array Obj) => cell_regrown u2 d os
            have hk0 : (0 : Int) ≤ (k : Int) := by omega
            have hk1 : (k : Int) < (qS : Int) := by omega
            clear hUc u1 u2
            go_wp2_with fail
            refine wp_region_quiet_below (by kernel_rfl) (by kernel_rfl) ?_
            repeat (go_big_quiet_step (first | fail))
            refine wpQuiet_nil ?_
            intro _ hw'
            obtain ⟨⟨dq, osq⟩, hw''⟩ := hw'
            subst hw''
            have HBX := Lib.hid (HBW.out.trans ((below_regrown wr dq osq).mono HBW.out.size))
            have HQX := Lib.hid (HBQ.out.trans ((below_regrown wr dq osq).mono HBQ.out.size))
            clear U1 U2 HBW HBQ
            dsimp only
            generalize Go.Sort.grow (redrawn wr dq) osq = wc at HBX HQX ⊢
            go_wp2_with fail
            go_roundw
            case rel => exact ⟨k + 1, by omega, by go_num, by rw [HSU.out], HBX.out, HQX.out⟩
            case measure => simp [intOf]; omega
          · obtain rfl : k = qS := by omega
            have hfin : celH hs k = x2 := HX2.out.symm
            rw [hfin]
            have HV26 := Lib.hid (HV25.out.below HBQ.out HV25.out.low)
            have HS26 := Lib.hid (HS25.out.below HBQ.out HS25.out.low)
            have BX26 := Lib.hid (BX25.out.all HBQ.out)
            have hsum : (x2 + y2 != l2 * d2) = false := by simp; omega
            have y0 := BX26.out.c0
            have y1 := BX26.out.c1
            clear hfin HV25 HS25 BX25 HBQ HX2 HPK
            go_wp2_with fail
            refine (firstS_any l2 d2 c4 HV26.out (by omega) L2 true HA2.out).mono ?_
            rintro e w27 ⟨g7, c7, rfl, ho, hb⟩
            rw [HL2.out] at ho ⊢
            have HB27 := Lib.hid (HBW.out.trans (hb.mono HBW.out.size))
            have HV27 := Lib.hid (HV26.out.below hb HV26.out.low)
            have HS27 := Lib.hid (HS26.out.below hb HS26.out.low)
            have BX27 := Lib.hid (BX26.out.all hb)
            have HW27 := Lib.hid (own_Spots ho)
            clear hb ho HBW HV26 HS26 BX26 y0 y1 HA2
            have y0 := BX27.out.c0
            have y1 := BX27.out.c1
            go_wp2_with fail
            clear y0 y1 hsum
            go_loopw [22] (fun v wr => ∃ i : Nat, i ≤ k ∧ v = .int .i64 i ∧ Hid (∀ j, j < i → L2.getD j noSpot = ss.getD j noSpot) ∧ Below w.heap.size w wr ∧ Below w27.heap.size w27 wr) (fun v _ => k - (intOf v).toNat)
            case atStart => exact ⟨0, Nat.zero_le _, rfl, Lib.hid (fun j hj => absurd hj (by omega)), HB27.out, Below.refl _ _⟩
            case round =>
              clear HB27
              obtain ⟨i, hi, rfl, hpre, hbw, hbq⟩ := hrel
              have HBW := Lib.hid hbw
              have HBQ := Lib.hid hbq
              clear hbw hbq
              have HV28 := Lib.hid (HV27.out.below HBQ.out HV27.out.low)
              have HS28 := Lib.hid (HS27.out.below HBQ.out HS27.out.low)
              have HW28 := Lib.hid (HW27.out.below HBQ.out HW27.out.low)
              have BX28 := Lib.hid (BX27.out.all HBQ.out)
              by_cases hlt : i < k
              · obtain ⟨aU, eU, -, hUc⟩ := HW28.out.has.Spot (k := i) (by rw [HW28.out.len]; exact hlt)
                injection eU with eU
                subst eU
                have u0 := hUc.c0
                have u1 := hUc.c1
                clear hUc
                obtain ⟨aU, eU, -, hUc⟩ := HS28.out.has.Spot (k := i) (by rw [HS28.out.len]; exact hlt)
                injection eU with eU
                subst eU
                have v0 := hUc.c0
                have v1 := hUc.c1
                clear hUc
                simp only [addK, Nat.zero_add] at u0 u1 v0 v1
                have hst := lexS_step HLX.out (k := i) (by rw [HS28.out.len]; exact hlt) hpre.out
                have HST := Lib.hid hst
                obtain ⟨a0, ha0⟩ : ∃ a, (L2.getD i noSpot).x0 = a := ⟨_, rfl⟩
                obtain ⟨a1, ha1⟩ : ∃ a, (L2.getD i noSpot).x1 = a := ⟨_, rfl⟩
                obtain ⟨b0, hb0⟩ : ∃ a, (ss.getD i noSpot).x0 = a := ⟨_, rfl⟩
                obtain ⟨b1, hb1⟩ : ∃ a, (ss.getD i noSpot).x1 = a := ⟨_, rfl⟩
                rw [ha0] at u0
                rw [ha1] at u1
                rw [hb0] at v0
                rw [hb1] at v1
                rw [ha0, ha1, hb0, hb1] at hst
                have U0 := fun (d : Nat) (os : Array Obj) => cell_regrown u0 d os
                have U1 := fun (d : Nat) (os : Array Obj) => cell_regrown u1 d os
                have V0 := fun (d : Nat) (os : Array Obj) => cell_regrown v0 d os
                have V1 := fun (d : Nat) (os : Array Obj) => cell_regrown v1 d os
                have hi0 : (0 : Int) ≤ (i : Int) := by omega
                have hi1 : (i : Int) < (k : Int) := by omega
                have HE0 := Lib.hid ha0
                have HE1 := Lib.hid ha1
                have HF0 := Lib.hid hb0
                have HF1 := Lib.hid hb1
                clear u0 u1 v0 v1 ha0 ha1 hb0 hb1 HST
                rcases hst with ⟨h1, h2, hnew⟩ | hst
                · subst h1
                  subst h2
                  have HNEW := Lib.hid hnew
                  clear hnew HE0 HE1 HF0 HF1 HV28 HS28 HW28 BX28
                  go_wp2_with fail
                  refine wp_region_quiet_below (by kernel_rfl) (by kernel_rfl) ?_
                  repeat (go_big_quiet_step (first | fail))
                  refine wpQuiet_nil ?_
                  intro _ hw'
                  obtain ⟨⟨dq, osq⟩, hw''⟩ := hw'
                  subst hw''
                  have HBX := Lib.hid (HBW.out.trans ((below_regrown wr dq osq).mono HBW.out.size))
                  have HQX := Lib.hid (HBQ.out.trans ((below_regrown wr dq osq).mono HBQ.out.size))
                  clear U0 U1 V0 V1 HBW HBQ
                  dsimp only
                  generalize Go.Sort.grow (redrawn wr dq) osq = wc at HBX HQX ⊢
                  go_wp2_with fail
                  go_roundw
                  case rel => exact ⟨i + 1, by omega, by go_num, HNEW, HBX.out, HQX.out⟩
                  case measure => simp [intOf]; omega
                · rcases hst with ⟨h1, h2⟩ | h1
                  · subst h1
                    have hne : (a1 == b1) = false := by simp; omega
                    have hnl : ¬ b1 < a1 := by omega
                    go_wp2_with fail
                    refine wp_region_quiet_below (by kernel_rfl) (by kernel_rfl) ?_
                    repeat (go_big_quiet_step (first | fail))
                    refine wpQuiet_nil ?_
                    intro _ hw'
                    obtain ⟨⟨dq, osq⟩, hw''⟩ := hw'
                    subst hw''
                    have HBX := Lib.hid (HBW.out.trans ((below_regrown wr dq osq).mono HBW.out.size))
                    have HV29 := Lib.hid (HV28.out.below (below_regrown wr dq osq) HV28.out.low)
                    have HS29 := Lib.hid (HS28.out.below (below_regrown wr dq osq) HS28.out.low)
                    have HW29 := Lib.hid (HW28.out.below (below_regrown wr dq osq) HW28.out.low)
                    have BX29 := Lib.hid (BX28.out.all (below_regrown wr dq osq))
                    clear U0 U1 V0 V1 HBW HBQ HV28 HS28 HW28 BX28 HW27 HV27 HS27 BX27 hpre
                    dsimp only
                    generalize Go.Sort.grow (redrawn wr dq) osq = wc at HBX HV29 HS29 HW29 BX29 ⊢
                    obtain ⟨aU, eU, -, hUc⟩ := HW29.out.has.Spot (k := i) (by rw [HW29.out.len]; exact hlt)
                    injection eU with eU
                    subst eU
                    have u0 := hUc.c0
                    have u1 := hUc.c1
                    clear hUc
                    obtain ⟨aU, eU, -, hUc⟩ := HS29.out.has.Spot (k := i) (by rw [HS29.out.len]; exact hlt)
                    injection eU with eU
                    subst eU
                    have v0 := hUc.c0
                    have v1 := hUc.c1
                    clear hUc
                    simp only [addK, Nat.zero_add] at u0 u1 v0 v1
                    rw [HE0.out] at u0
                    rw [HE1.out] at u1
                    rw [HF0.out] at v0
                    rw [HF1.out] at v1
                    have U0 := fun (d : Nat) (os : Array Obj) => cell_regrown u0 d os
                    have U1 := fun (d : Nat) (os : Array Obj) => cell_regrown u1 d os
                    have V0 := fun (d : Nat) (os : Array Obj) => cell_regrown v0 d os
                    have V1 := fun (d : Nat) (os : Array Obj) => cell_regrown v1 d os
                    clear u0 u1 v0 v1
                    go_wp2_with fail
                    refine wp_region_quiet_below (by kernel_rfl) (by kernel_rfl) ?_
                    repeat (first | go_big_quiet_step (first | fail) | rw [hne])
                    refine wpQuiet_nil ?_
                    intro _ hw'
                    obtain ⟨⟨dq, osq⟩, hw''⟩ := hw'
                    subst hw''
                    have HBY := Lib.hid (HBX.out.trans ((below_regrown wc dq osq).mono HBX.out.size))
                    have HV30 := Lib.hid (HV29.out.below (below_regrown wc dq osq) HV29.out.low)
                    have HS30 := Lib.hid (HS29.out.below (below_regrown wc dq osq) HS29.out.low)
                    have BX30 := Lib.hid (BX29.out.all (below_regrown wc dq osq))
                    clear U0 U1 V0 V1 HBX HV29 HS29 HW29 BX29 HE0 HE1 HF0 HF1 HLX HL2
                    dsimp only
                    generalize Go.Sort.grow (redrawn wc dq) osq = wz at HBY HV30 HS30 BX30 ⊢
                    have y0 := BX30.out.c0
                    have y1 := BX30.out.c1
                    go_wp2_with fail
                    refine (picI_any l2 d2 c4 c5 HV30.out HS30.out (by omega) (by omega) P _ HPI.out).mono ?_
                    rintro e w60 ⟨rfl, hb⟩
                    have HB60 := Lib.hid (HBY.out.trans (hb.mono HBY.out.size))
                    have HV60 := Lib.hid (HV30.out.below hb HV30.out.low)
                    have HS60 := Lib.hid (HS30.out.below hb HS30.out.low)
                    have BX60 := Lib.hid (BX30.out.all hb)
                    clear hb y0 y1 HBY HV30 HS30 BX30
                    have y0 := BX60.out.c0
                    have y1 := BX60.out.c1
                    go_wp2_with fail
                    refine (picS_any l2 d2 c4 c5 HV60.out HS60.out (by omega) (by omega) P _ HPI.out).mono ?_
                    rintro e w61 ⟨rfl, hb⟩
                    have HB61 := Lib.hid (HB60.out.trans (hb.mono HB60.out.size))
                    clear hb y0 y1 HB60 HV60 HS60 BX60 HPI
                    go_wp2_with fail
                    go_loopw [27, 28] (fun s v wr => ∃ k : Nat, k ≤ P.size ∧ v = .int .i64 k ∧ s = .int .i64 (cntL P k) ∧ Below w.heap.size w wr) (fun _ v _ => P.size - (intOf v).toNat)
                    case atStart => exact ⟨0, Nat.zero_le _, rfl, rfl, HB61.out⟩
                    case round =>
                      clear HB61
                      obtain ⟨k, hk, rfl, rfl, hbw⟩ := hrel
                      have HBW := Lib.hid hbw
                      obtain ⟨n0, n1⟩ := cntL_bd P k
                      have b0 := bt_nonneg P k
                      have b1 := bt_le P k
                      have hgb := get_bt P
                      clear hbw
                      by_cases hlt : k < P.size
                      · have hs := cntL_succ P k hlt
                        rw [hgb k hlt] at hs
                        have HSC := Lib.hid hs
                        clear hs
                        by_cases h97 : 97 ≤ bt P k
                        · by_cases h100 : bt P k ≤ 100
                          · go_wp2_with fail
                            go_roundw
                            case rel => exact ⟨k + 1, by omega, by go_num, by rw [HSC.out, if_pos ⟨h97, h100⟩], HBW.out⟩
                            case measure => simp [intOf]; omega
                          · go_wp2_with fail
                            go_roundw
                            case rel => exact ⟨k + 1, by omega, by go_num, by rw [HSC.out, if_neg (fun g => h100 g.2), Int.add_zero], HBW.out⟩
                            case measure => simp [intOf]; omega
                        · go_wp2_with fail
                          go_roundw
                          case rel => exact ⟨k + 1, by omega, by go_num, by rw [HSC.out, if_neg (fun g => h97 g.1), Int.add_zero], HBW.out⟩
                          case measure => simp [intOf]; omega
                      · obtain rfl : k = P.size := by omega
                        have hfin := HCN.out
                        rw [hfin]
                        clear n0 n1 b0 b1 hgb
                        have hxx : (x2 == x2) = true := by simp
                        go_wp2_with fail
                        go_ret
                        exact ⟨rfl, HBW.out⟩
                  · have hne : (a0 == b0) = false := by simp; omega
                    have hnl : ¬ b0 < a0 := by omega
                    have hnq : ¬ a0 = b0 := by omega
                    have hnd : decide (b0 < a0) = false := decide_eq_false hnl
                    go_wp2_with fail
                    refine wp_region_quiet_below (by kernel_rfl) (by kernel_rfl) ?_
                    repeat (go_big_quiet_step (first | fail))
                    refine wpQuiet_nil ?_
                    intro _ hw'
                    obtain ⟨⟨dq, osq⟩, hw''⟩ := hw'
                    subst hw''
                    have HBX := Lib.hid (HBW.out.trans ((below_regrown wr dq osq).mono HBW.out.size))
                    have HV29 := Lib.hid (HV28.out.below (below_regrown wr dq osq) HV28.out.low)
                    have HS29 := Lib.hid (HS28.out.below (below_regrown wr dq osq) HS28.out.low)
                    have HW29 := Lib.hid (HW28.out.below (below_regrown wr dq osq) HW28.out.low)
                    have BX29 := Lib.hid (BX28.out.all (below_regrown wr dq osq))
                    clear U0 U1 V0 V1 HBW HBQ HV28 HS28 HW28 BX28 HW27 HV27 HS27 BX27 hpre
                    dsimp only
                    generalize Go.Sort.grow (redrawn wr dq) osq = wc at HBX HV29 HS29 HW29 BX29 ⊢
                    obtain ⟨aU, eU, -, hUc⟩ := HW29.out.has.Spot (k := i) (by rw [HW29.out.len]; exact hlt)
                    injection eU with eU
                    subst eU
                    have u0 := hUc.c0
                    have u1 := hUc.c1
                    clear hUc
                    obtain ⟨aU, eU, -, hUc⟩ := HS29.out.has.Spot (k := i) (by rw [HS29.out.len]; exact hlt)
                    injection eU with eU
                    subst eU
                    have v0 := hUc.c0
                    have v1 := hUc.c1
                    clear hUc
                    simp only [addK, Nat.zero_add] at u0 u1 v0 v1
                    rw [HE0.out] at u0
                    rw [HE1.out] at u1
                    rw [HF0.out] at v0
                    rw [HF1.out] at v1
                    have U0 := fun (d : Nat) (os : Array Obj) => cell_regrown u0 d os
                    have U1 := fun (d : Nat) (os : Array Obj) => cell_regrown u1 d os
                    have V0 := fun (d : Nat) (os : Array Obj) => cell_regrown v0 d os
                    have V1 := fun (d : Nat) (os : Array Obj) => cell_regrown v1 d os
                    clear u0 u1 v0 v1
                    go_wp2_with fail
                    refine wp_region_quiet_below (by kernel_rfl) (by kernel_rfl) ?_
                    repeat (first | go_big_quiet_step (first | fail) | rw [hnd] | rw [hne])
                    refine wpQuiet_nil ?_
                    intro _ hw'
                    obtain ⟨⟨dq, osq⟩, hw''⟩ := hw'
                    subst hw''
                    have HBY := Lib.hid (HBX.out.trans ((below_regrown wc dq osq).mono HBX.out.size))
                    have HV30 := Lib.hid (HV29.out.below (below_regrown wc dq osq) HV29.out.low)
                    have HS30 := Lib.hid (HS29.out.below (below_regrown wc dq osq) HS29.out.low)
                    have BX30 := Lib.hid (BX29.out.all (below_regrown wc dq osq))
                    clear U0 U1 V0 V1 HBX HV29 HS29 HW29 BX29 HE0 HE1 HF0 HF1 HLX HL2
                    dsimp only
                    generalize Go.Sort.grow (redrawn wc dq) osq = wz at HBY HV30 HS30 BX30 ⊢
                    have y0 := BX30.out.c0
                    have y1 := BX30.out.c1
                    go_wp2_with fail
                    refine (picI_any l2 d2 c4 c5 HV30.out HS30.out (by omega) (by omega) P _ HPI.out).mono ?_
                    rintro e w60 ⟨rfl, hb⟩
                    have HB60 := Lib.hid (HBY.out.trans (hb.mono HBY.out.size))
                    have HV60 := Lib.hid (HV30.out.below hb HV30.out.low)
                    have HS60 := Lib.hid (HS30.out.below hb HS30.out.low)
                    have BX60 := Lib.hid (BX30.out.all hb)
                    clear hb y0 y1 HBY HV30 HS30 BX30
                    have y0 := BX60.out.c0
                    have y1 := BX60.out.c1
                    go_wp2_with fail
                    refine (picS_any l2 d2 c4 c5 HV60.out HS60.out (by omega) (by omega) P _ HPI.out).mono ?_
                    rintro e w61 ⟨rfl, hb⟩
                    have HB61 := Lib.hid (HB60.out.trans (hb.mono HB60.out.size))
                    clear hb y0 y1 HB60 HV60 HS60 BX60 HPI
                    go_wp2_with fail
                    go_loopw [27, 28] (fun s v wr => ∃ k : Nat, k ≤ P.size ∧ v = .int .i64 k ∧ s = .int .i64 (cntL P k) ∧ Below w.heap.size w wr) (fun _ v _ => P.size - (intOf v).toNat)
                    case atStart => exact ⟨0, Nat.zero_le _, rfl, rfl, HB61.out⟩
                    case round =>
                      clear HB61
                      obtain ⟨k, hk, rfl, rfl, hbw⟩ := hrel
                      have HBW := Lib.hid hbw
                      obtain ⟨n0, n1⟩ := cntL_bd P k
                      have b0 := bt_nonneg P k
                      have b1 := bt_le P k
                      have hgb := get_bt P
                      clear hbw
                      by_cases hlt : k < P.size
                      · have hs := cntL_succ P k hlt
                        rw [hgb k hlt] at hs
                        have HSC := Lib.hid hs
                        clear hs
                        by_cases h97 : 97 ≤ bt P k
                        · by_cases h100 : bt P k ≤ 100
                          · go_wp2_with fail
                            go_roundw
                            case rel => exact ⟨k + 1, by omega, by go_num, by rw [HSC.out, if_pos ⟨h97, h100⟩], HBW.out⟩
                            case measure => simp [intOf]; omega
                          · go_wp2_with fail
                            go_roundw
                            case rel => exact ⟨k + 1, by omega, by go_num, by rw [HSC.out, if_neg (fun g => h100 g.2), Int.add_zero], HBW.out⟩
                            case measure => simp [intOf]; omega
                        · go_wp2_with fail
                          go_roundw
                          case rel => exact ⟨k + 1, by omega, by go_num, by rw [HSC.out, if_neg (fun g => h97 g.1), Int.add_zero], HBW.out⟩
                          case measure => simp [intOf]; omega
                      · obtain rfl : k = P.size := by omega
                        have hfin := HCN.out
                        rw [hfin]
                        clear n0 n1 b0 b1 hgb
                        have hxx : (x2 == x2) = true := by simp
                        go_wp2_with fail
                        go_ret
                        exact ⟨rfl, HBW.out⟩
              · obtain rfl : i = k := by omega
                clear HBQ HW28 hpre HW27 HV27 HS27 BX27
                have y0 := BX28.out.c0
                have y1 := BX28.out.c1
                go_wp2_with fail
                refine (picI_any l2 d2 c4 c5 HV28.out HS28.out (by omega) (by omega) P _ HPI.out).mono ?_
                rintro e w60 ⟨rfl, hb⟩
                have HB60 := Lib.hid (HBW.out.trans (hb.mono HBW.out.size))
                have HV60 := Lib.hid (HV28.out.below hb HV28.out.low)
                have HS60 := Lib.hid (HS28.out.below hb HS28.out.low)
                have BX60 := Lib.hid (BX28.out.all hb)
                clear hb y0 y1 HBW HV28 HS28 BX28
                have y0 := BX60.out.c0
                have y1 := BX60.out.c1
                go_wp2_with fail
                refine (picS_any l2 d2 c4 c5 HV60.out HS60.out (by omega) (by omega) P _ HPI.out).mono ?_
                rintro e w61 ⟨rfl, hb⟩
                have HB61 := Lib.hid (HB60.out.trans (hb.mono HB60.out.size))
                clear hb y0 y1 HB60 HV60 HS60 BX60 HPI
                go_wp2_with fail
                go_loopw [27, 28] (fun s v wr => ∃ k : Nat, k ≤ P.size ∧ v = .int .i64 k ∧ s = .int .i64 (cntL P k) ∧ Below w.heap.size w wr) (fun _ v _ => P.size - (intOf v).toNat)
                case atStart => exact ⟨0, Nat.zero_le _, rfl, rfl, HB61.out⟩
                case round =>
                  clear HB61
                  obtain ⟨k, hk, rfl, rfl, hbw⟩ := hrel
                  have HBW := Lib.hid hbw
                  obtain ⟨n0, n1⟩ := cntL_bd P k
                  have b0 := bt_nonneg P k
                  have b1 := bt_le P k
                  have hgb := get_bt P
                  clear hbw
                  by_cases hlt : k < P.size
                  · have hs := cntL_succ P k hlt
                    rw [hgb k hlt] at hs
                    have HSC := Lib.hid hs
                    clear hs
                    by_cases h97 : 97 ≤ bt P k
                    · by_cases h100 : bt P k ≤ 100
                      · go_wp2_with fail
                        go_roundw
                        case rel => exact ⟨k + 1, by omega, by go_num, by rw [HSC.out, if_pos ⟨h97, h100⟩], HBW.out⟩
                        case measure => simp [intOf]; omega
                      · go_wp2_with fail
                        go_roundw
                        case rel => exact ⟨k + 1, by omega, by go_num, by rw [HSC.out, if_neg (fun g => h100 g.2), Int.add_zero], HBW.out⟩
                        case measure => simp [intOf]; omega
                    · go_wp2_with fail
                      go_roundw
                      case rel => exact ⟨k + 1, by omega, by go_num, by rw [HSC.out, if_neg (fun g => h97 g.1), Int.add_zero], HBW.out⟩
                      case measure => simp [intOf]; omega
                  · obtain rfl : k = P.size := by omega
                    have hfin := HCN.out
                    rw [hfin]
                    clear n0 n1 b0 b1 hgb
                    have hxx : (x2 == x2) = true := by simp
                    go_wp2_with fail
                    go_ret
                    exact ⟨rfl, HBW.out⟩
    | true =>
      have CP := Lib.hid (isPacking_any l d c1 c3 HV6.out HS6.out (by omega) (by omega))
      rw [first_pack HA.out] at CP
      have y0 := BX6.out.c0
      have y1 := BX6.out.c1
      clear HA
      go_wp2_with fail
      refine CP.out.mono ?_
      rintro e w7 ⟨rfl, hb⟩
      have HB7 := Lib.hid (HB6.out.trans (hb.mono HB6.out.size))
      clear hb CP HB6 HV6 HS6 BX6 y0 y1 HLL
      have D2 := Lib.hid (drawCov_any c (HC.out.on HB7.out))
      go_wp2_with fail
      refine D2.out.mono ?_
      rintro e w20 ⟨l2, d2, gH, qH, c4, hs, gS, qS, c5, ss, rfl, hq4, hqc4, hq5, hqc5, -, -, hV, hS, hb⟩
      have HB20 := Lib.hid (HB7.out.trans (hb.mono HB7.out.size))
      have hb2 := below1x w20 (.cells #[.int .i64 l2, .int .i64 d2] 25)
      have HB21 := Lib.hid (HB20.out.trans (hb2.mono HB20.out.size))
      have HV21 := Lib.hid (hV.below hb2 hV.low)
      have HS21 := Lib.hid (hS.below hb2 hS.low)
      have BX21 := Lib.hid (BoxM.new w20 l2 d2)
      clear D2 hV hS hb hb2 HB20 HB7
      obtain ⟨x2, y2, t, hCV⟩ := covA_ex ⟨l2, d2⟩ hs ss
      obtain ⟨P, t', hPI⟩ := picA_ex ⟨l2, d2⟩ hs ss
      obtain ⟨rfl, htg, hcn, hp21, htold⟩ := pic_all hCV hPI
      have HCV := Lib.hid hCV
      have HPI := Lib.hid hPI
      have HCN := Lib.hid hcn
      have HTG := Lib.hid htg
      have HTO := Lib.hid htold
      have hxx2 : (x2 != x2) = false := by simp
      have hyy2 : (y2 != y2) = false := by simp
      have htt2 : (t' != t') = false := by simp
      clear hCV hPI hcn htg htold
      go_wp2_with fail
      obtain ⟨w21, hw21⟩ : ∃ W, (w20.alloc (.cells #[.int .i64 l2, .int .i64 d2] 25)) = W := ⟨_, rfl⟩
      obtain ⟨xf, hxf⟩ : ∃ x, w20.heap.size = x := ⟨_, rfl⟩
      rw [hw21] at HV21 HS21 BX21 HB21
      (try rw [hw21])
      rw [hxf] at BX21
      try simp only [hxf]
      clear hw21 hxf
      have y0 := BX21.out.c0
      have y1 := BX21.out.c1
      go_wp2_with fail
      refine (covI_any l2 d2 c4 c5 HV21.out HS21.out (by omega) (by omega) x2 y2 t' HCV.out).mono ?_
      rintro e w22 ⟨rfl, hb⟩
      have HB22 := Lib.hid (HB21.out.trans (hb.mono HB21.out.size))
      have HV22 := Lib.hid (HV21.out.below hb HV21.out.low)
      have HS22 := Lib.hid (HS21.out.below hb HS21.out.low)
      have BX22 := Lib.hid (BX21.out.all hb)
      clear hb HB21 HV21 HS21 BX21
      clear y0 y1
      have y0 := BX22.out.c0
      have y1 := BX22.out.c1
      go_wp2_with fail
      refine (covS_any l2 d2 c4 c5 HV22.out HS22.out (by omega) (by omega) x2 y2 t' HCV.out).mono ?_
      rintro e w23 ⟨rfl, hb⟩
      have HB23 := Lib.hid (HB22.out.trans (hb.mono HB22.out.size))
      have HV23 := Lib.hid (HV22.out.below hb HV22.out.low)
      have HS23 := Lib.hid (HS22.out.below hb HS22.out.low)
      have BX23 := Lib.hid (BX22.out.all hb)
      clear hb HB22 HV22 HS22 BX22
      clear y0 y1
      have y0 := BX23.out.c0
      have y1 := BX23.out.c1
      have CPI := Lib.hid (isPacking_any l2 d2 c4 c5 HV23.out HS23.out (by omega) (by omega))
      rw [← HTG.out] at CPI
      go_wp2_with fail
      refine CPI.out.mono ?_
      rintro e w24 ⟨rfl, hb⟩
      have HB24 := Lib.hid (HB23.out.trans (hb.mono HB23.out.size))
      have HV24 := Lib.hid (HV23.out.below hb HV23.out.low)
      have HS24 := Lib.hid (HS23.out.below hb HS23.out.low)
      have BX24 := Lib.hid (BX23.out.all hb)
      clear hb HB23 HV23 HS23 BX23
      clear y0 y1 CPI
      have y0 := BX24.out.c0
      have y1 := BX24.out.c1
      have CPS := Lib.hid (isPackS_any l2 d2 c4 c5 HV24.out HS24.out (by omega) (by omega))
      rw [← HTG.out] at CPS
      go_wp2_with fail
      refine CPS.out.mono ?_
      rintro e w25 ⟨rfl, hb⟩
      have HB25 := Lib.hid (HB24.out.trans (hb.mono HB24.out.size))
      have HV25 := Lib.hid (HV24.out.below hb HV24.out.low)
      have HS25 := Lib.hid (HS24.out.below hb HS24.out.low)
      have BX25 := Lib.hid (BX24.out.all hb)
      clear hb HB24 HV24 HS24 BX24
      clear y0 y1 CPS HTG HCV
      cases t' with
      | false =>
        clear HTO
        have y0 := BX25.out.c0
        have y1 := BX25.out.c1
        go_wp2_with fail
        refine (picI_any l2 d2 c4 c5 HV25.out HS25.out (by omega) (by omega) P _ HPI.out).mono ?_
        rintro e w60 ⟨rfl, hb⟩
        have HB60 := Lib.hid (HB25.out.trans (hb.mono HB25.out.size))
        have HV60 := Lib.hid (HV25.out.below hb HV25.out.low)
        have HS60 := Lib.hid (HS25.out.below hb HS25.out.low)
        have BX60 := Lib.hid (BX25.out.all hb)
        clear hb y0 y1 HB25 HV25 HS25 BX25
        have y0 := BX60.out.c0
        have y1 := BX60.out.c1
        go_wp2_with fail
        refine (picS_any l2 d2 c4 c5 HV60.out HS60.out (by omega) (by omega) P _ HPI.out).mono ?_
        rintro e w61 ⟨rfl, hb⟩
        have HB61 := Lib.hid (HB60.out.trans (hb.mono HB60.out.size))
        clear hb y0 y1 HB60 HV60 HS60 BX60 HPI
        go_wp2_with fail
        go_loopw [27, 28] (fun s v wr => ∃ k : Nat, k ≤ P.size ∧ v = .int .i64 k ∧ s = .int .i64 (cntL P k) ∧ Below w.heap.size w wr) (fun _ v _ => P.size - (intOf v).toNat)
        case atStart => exact ⟨0, Nat.zero_le _, rfl, rfl, HB61.out⟩
        case round =>
          clear HB61
          obtain ⟨k, hk, rfl, rfl, hbw⟩ := hrel
          have HBW := Lib.hid hbw
          obtain ⟨n0, n1⟩ := cntL_bd P k
          have b0 := bt_nonneg P k
          have b1 := bt_le P k
          have hgb := get_bt P
          clear hbw
          by_cases hlt : k < P.size
          · have hs := cntL_succ P k hlt
            rw [hgb k hlt] at hs
            have HSC := Lib.hid hs
            clear hs
            by_cases h97 : 97 ≤ bt P k
            · by_cases h100 : bt P k ≤ 100
              · go_wp2_with fail
                go_roundw
                case rel => exact ⟨k + 1, by omega, by go_num, by rw [HSC.out, if_pos ⟨h97, h100⟩], HBW.out⟩
                case measure => simp [intOf]; omega
              · go_wp2_with fail
                go_roundw
                case rel => exact ⟨k + 1, by omega, by go_num, by rw [HSC.out, if_neg (fun g => h100 g.2), Int.add_zero], HBW.out⟩
                case measure => simp [intOf]; omega
            · go_wp2_with fail
              go_roundw
              case rel => exact ⟨k + 1, by omega, by go_num, by rw [HSC.out, if_neg (fun g => h97 g.1), Int.add_zero], HBW.out⟩
              case measure => simp [intOf]; omega
          · obtain rfl : k = P.size := by omega
            have hfin := HCN.out
            rw [hfin]
            clear n0 n1 b0 b1 hgb
            have hxx : (x2 == x2) = true := by simp
            go_wp2_with fail
            go_ret
            exact ⟨rfl, HBW.out⟩
      | true =>
        obtain ⟨hx2, hy2, hpk⟩ := HTO.out rfl
        obtain ⟨L2, x3, hA2⟩ := firstA_ex ⟨l2, d2⟩ hs
        obtain ⟨rfl, hl2, hlex⟩ := first_least hpk hA2
        have hqq : qS = qH := by rw [← HS25.out.len, ← HV25.out.len]; exact hpk.2.2.1
        subst hqq
        have hL2 : L2.length = qS := by rw [hl2]; exact HS25.out.len
        have h4 : qS ≤ 4 := by rw [← HV25.out.len]; exact hpk.2.1.1
        have hmb := mulC_bd hpk.1
        have hxb := celH_bd (goodHs_all hpk.2.1) hs.length (Nat.le_refl _)
        rw [← hx2] at hxb
        rw [HV25.out.len] at hxb hx2
        dsimp only at hmb hy2
        have HX2 := Lib.hid hx2
        have HPK := Lib.hid hpk
        have HA2 := Lib.hid hA2
        have HLX := Lib.hid hlex
        have HL2 := Lib.hid hL2
        clear HTO hpk hA2 hlex hl2 hx2 hL2
        go_wp2_with fail
        go_loopw [18, 19] (fun s v wr => ∃ k : Nat, k ≤ qS ∧ v = .int .i64 k ∧ s = .int .i64 (celH hs k) ∧ Below w.heap.size w wr ∧ Below w25.heap.size w25 wr) (fun _ v _ => qS - (intOf v).toNat)
        case atStart => exact ⟨0, Nat.zero_le _, rfl, rfl, HB25.out, Below.refl _ _⟩
        case round =>
          clear HB25
          obtain ⟨k, hk, rfl, rfl, hbw, hbq⟩ := hrel
          have HBW := Lib.hid hbw
          have HBQ := Lib.hid hbq
          clear hbw hbq
          by_cases hlt : k < qS
          · have hcb := celH_bd (goodHs_all HPK.out.2.1) k (by rw [HV25.out.len]; omega)
            obtain ⟨aU, eU, -, hUc⟩ := (HV25.out.below HBQ.out HV25.out.low).has.Hull (k := k) (by rw [HV25.out.len]; exact hlt)
            injection eU with eU
            subst eU
            have u1 := hUc.c1
            have u2 := hUc.c2
            simp only [addK, Nat.zero_add] at u1 u2
            have hgd := (HPK.out.2.1.2 k (by rw [HV25.out.len]; exact hlt)).1
            have hcl := cellH_bd hgd
            have HSU : Hid (celH hs (k + 1) = celH hs k + (hs.getD k noHull).x1 * (hs.getD k noHull).x2) := Lib.hid rfl
            obtain ⟨-, hg1, hg2⟩ := hgd
            generalize (hs.getD k noHull).x1 = v1 at u1 hcl HSU hg1
            generalize (hs.getD k noHull).x2 = v2 at u2 hcl HSU hg2
            generalize celH hs k = s at hcb HSU ⊢
            have U1 := fun (d : Nat) (os : Array Obj) => cell_regrown u1 d os
            have U2 := fun (d : Nat) (os : Array Obj) => cell_regrown u2 d os
            have hk0 : (0 : Int) ≤ (k : Int) := by omega
            have hk1 : (k : Int) < (qS : Int) := by omega
            clear hUc u1 u2
            go_wp2_with fail
            refine wp_region_quiet_below (by kernel_rfl) (by kernel_rfl) ?_
            repeat (go_big_quiet_step (first | fail))
            refine wpQuiet_nil ?_
            intro _ hw'
            obtain ⟨⟨dq, osq⟩, hw''⟩ := hw'
            subst hw''
            have HBX := Lib.hid (HBW.out.trans ((below_regrown wr dq osq).mono HBW.out.size))
            have HQX := Lib.hid (HBQ.out.trans ((below_regrown wr dq osq).mono HBQ.out.size))
            clear U1 U2 HBW HBQ
            dsimp only
            generalize Go.Sort.grow (redrawn wr dq) osq = wc at HBX HQX ⊢
            go_wp2_with fail
            go_roundw
            case rel => exact ⟨k + 1, by omega, by go_num, by rw [HSU.out], HBX.out, HQX.out⟩
            case measure => simp [intOf]; omega
          · obtain rfl : k = qS := by omega
            have hfin : celH hs k = x2 := HX2.out.symm
            rw [hfin]
            have HV26 := Lib.hid (HV25.out.below HBQ.out HV25.out.low)
            have HS26 := Lib.hid (HS25.out.below HBQ.out HS25.out.low)
            have BX26 := Lib.hid (BX25.out.all HBQ.out)
            have hsum : (x2 + y2 != l2 * d2) = false := by simp; omega
            have y0 := BX26.out.c0
            have y1 := BX26.out.c1
            clear hfin HV25 HS25 BX25 HBQ HX2 HPK
            go_wp2_with fail
            refine (firstS_any l2 d2 c4 HV26.out (by omega) L2 true HA2.out).mono ?_
            rintro e w27 ⟨g7, c7, rfl, ho, hb⟩
            rw [HL2.out] at ho ⊢
            have HB27 := Lib.hid (HBW.out.trans (hb.mono HBW.out.size))
            have HV27 := Lib.hid (HV26.out.below hb HV26.out.low)
            have HS27 := Lib.hid (HS26.out.below hb HS26.out.low)
            have BX27 := Lib.hid (BX26.out.all hb)
            have HW27 := Lib.hid (own_Spots ho)
            clear hb ho HBW HV26 HS26 BX26 y0 y1 HA2
            have y0 := BX27.out.c0
            have y1 := BX27.out.c1
            go_wp2_with fail
            clear y0 y1 hsum
            go_loopw [22] (fun v wr => ∃ i : Nat, i ≤ k ∧ v = .int .i64 i ∧ Hid (∀ j, j < i → L2.getD j noSpot = ss.getD j noSpot) ∧ Below w.heap.size w wr ∧ Below w27.heap.size w27 wr) (fun v _ => k - (intOf v).toNat)
            case atStart => exact ⟨0, Nat.zero_le _, rfl, Lib.hid (fun j hj => absurd hj (by omega)), HB27.out, Below.refl _ _⟩
            case round =>
              clear HB27
              obtain ⟨i, hi, rfl, hpre, hbw, hbq⟩ := hrel
              have HBW := Lib.hid hbw
              have HBQ := Lib.hid hbq
              clear hbw hbq
              have HV28 := Lib.hid (HV27.out.below HBQ.out HV27.out.low)
              have HS28 := Lib.hid (HS27.out.below HBQ.out HS27.out.low)
              have HW28 := Lib.hid (HW27.out.below HBQ.out HW27.out.low)
              have BX28 := Lib.hid (BX27.out.all HBQ.out)
              by_cases hlt : i < k
              · obtain ⟨aU, eU, -, hUc⟩ := HW28.out.has.Spot (k := i) (by rw [HW28.out.len]; exact hlt)
                injection eU with eU
                subst eU
                have u0 := hUc.c0
                have u1 := hUc.c1
                clear hUc
                obtain ⟨aU, eU, -, hUc⟩ := HS28.out.has.Spot (k := i) (by rw [HS28.out.len]; exact hlt)
                injection eU with eU
                subst eU
                have v0 := hUc.c0
                have v1 := hUc.c1
                clear hUc
                simp only [addK, Nat.zero_add] at u0 u1 v0 v1
                have hst := lexS_step HLX.out (k := i) (by rw [HS28.out.len]; exact hlt) hpre.out
                have HST := Lib.hid hst
                obtain ⟨a0, ha0⟩ : ∃ a, (L2.getD i noSpot).x0 = a := ⟨_, rfl⟩
                obtain ⟨a1, ha1⟩ : ∃ a, (L2.getD i noSpot).x1 = a := ⟨_, rfl⟩
                obtain ⟨b0, hb0⟩ : ∃ a, (ss.getD i noSpot).x0 = a := ⟨_, rfl⟩
                obtain ⟨b1, hb1⟩ : ∃ a, (ss.getD i noSpot).x1 = a := ⟨_, rfl⟩
                rw [ha0] at u0
                rw [ha1] at u1
                rw [hb0] at v0
                rw [hb1] at v1
                rw [ha0, ha1, hb0, hb1] at hst
                have U0 := fun (d : Nat) (os : Array Obj) => cell_regrown u0 d os
                have U1 := fun (d : Nat) (os : Array Obj) => cell_regrown u1 d os
                have V0 := fun (d : Nat) (os : Array Obj) => cell_regrown v0 d os
                have V1 := fun (d : Nat) (os : Array Obj) => cell_regrown v1 d os
                have hi0 : (0 : Int) ≤ (i : Int) := by omega
                have hi1 : (i : Int) < (k : Int) := by omega
                have HE0 := Lib.hid ha0
                have HE1 := Lib.hid ha1
                have HF0 := Lib.hid hb0
                have HF1 := Lib.hid hb1
                clear u0 u1 v0 v1 ha0 ha1 hb0 hb1 HST
                rcases hst with ⟨h1, h2, hnew⟩ | hst
                · subst h1
                  subst h2
                  have HNEW := Lib.hid hnew
                  clear hnew HE0 HE1 HF0 HF1 HV28 HS28 HW28 BX28
                  go_wp2_with fail
                  refine wp_region_quiet_below (by kernel_rfl) (by kernel_rfl) ?_
                  repeat (go_big_quiet_step (first | fail))
                  refine wpQuiet_nil ?_
                  intro _ hw'
                  obtain ⟨⟨dq, osq⟩, hw''⟩ := hw'
                  subst hw''
                  have HBX := Lib.hid (HBW.out.trans ((below_regrown wr dq osq).mono HBW.out.size))
                  have HQX := Lib.hid (HBQ.out.trans ((below_regrown wr dq osq).mono HBQ.out.size))
                  clear U0 U1 V0 V1 HBW HBQ
                  dsimp only
                  generalize Go.Sort.grow (redrawn wr dq) osq = wc at HBX HQX ⊢
                  go_wp2_with fail
                  go_roundw
                  case rel => exact ⟨i + 1, by omega, by go_num, HNEW, HBX.out, HQX.out⟩
                  case measure => simp [intOf]; omega
                · rcases hst with ⟨h1, h2⟩ | h1
                  · subst h1
                    have hne : (a1 == b1) = false := by simp; omega
                    have hnl : ¬ b1 < a1 := by omega
                    go_wp2_with fail
                    refine wp_region_quiet_below (by kernel_rfl) (by kernel_rfl) ?_
                    repeat (go_big_quiet_step (first | fail))
                    refine wpQuiet_nil ?_
                    intro _ hw'
                    obtain ⟨⟨dq, osq⟩, hw''⟩ := hw'
                    subst hw''
                    have HBX := Lib.hid (HBW.out.trans ((below_regrown wr dq osq).mono HBW.out.size))
                    have HV29 := Lib.hid (HV28.out.below (below_regrown wr dq osq) HV28.out.low)
                    have HS29 := Lib.hid (HS28.out.below (below_regrown wr dq osq) HS28.out.low)
                    have HW29 := Lib.hid (HW28.out.below (below_regrown wr dq osq) HW28.out.low)
                    have BX29 := Lib.hid (BX28.out.all (below_regrown wr dq osq))
                    clear U0 U1 V0 V1 HBW HBQ HV28 HS28 HW28 BX28 HW27 HV27 HS27 BX27 hpre
                    dsimp only
                    generalize Go.Sort.grow (redrawn wr dq) osq = wc at HBX HV29 HS29 HW29 BX29 ⊢
                    obtain ⟨aU, eU, -, hUc⟩ := HW29.out.has.Spot (k := i) (by rw [HW29.out.len]; exact hlt)
                    injection eU with eU
                    subst eU
                    have u0 := hUc.c0
                    have u1 := hUc.c1
                    clear hUc
                    obtain ⟨aU, eU, -, hUc⟩ := HS29.out.has.Spot (k := i) (by rw [HS29.out.len]; exact hlt)
                    injection eU with eU
                    subst eU
                    have v0 := hUc.c0
                    have v1 := hUc.c1
                    clear hUc
                    simp only [addK, Nat.zero_add] at u0 u1 v0 v1
                    rw [HE0.out] at u0
                    rw [HE1.out] at u1
                    rw [HF0.out] at v0
                    rw [HF1.out] at v1
                    have U0 := fun (d : Nat) (os : Array Obj) => cell_regrown u0 d os
                    have U1 := fun (d : Nat) (os : Array Obj) => cell_regrown u1 d os
                    have V0 := fun (d : Nat) (os : Array Obj) => cell_regrown v0 d os
                    have V1 := fun (d : Nat) (os : Array Obj) => cell_regrown v1 d os
                    clear u0 u1 v0 v1
                    go_wp2_with fail
                    refine wp_region_quiet_below (by kernel_rfl) (by kernel_rfl) ?_
                    repeat (first | go_big_quiet_step (first | fail) | rw [hne])
                    refine wpQuiet_nil ?_
                    intro _ hw'
                    obtain ⟨⟨dq, osq⟩, hw''⟩ := hw'
                    subst hw''
                    have HBY := Lib.hid (HBX.out.trans ((below_regrown wc dq osq).mono HBX.out.size))
                    have HV30 := Lib.hid (HV29.out.below (below_regrown wc dq osq) HV29.out.low)
                    have HS30 := Lib.hid (HS29.out.below (below_regrown wc dq osq) HS29.out.low)
                    have BX30 := Lib.hid (BX29.out.all (below_regrown wc dq osq))
                    clear U0 U1 V0 V1 HBX HV29 HS29 HW29 BX29 HE0 HE1 HF0 HF1 HLX HL2
                    dsimp only
                    generalize Go.Sort.grow (redrawn wc dq) osq = wz at HBY HV30 HS30 BX30 ⊢
                    have y0 := BX30.out.c0
                    have y1 := BX30.out.c1
                    go_wp2_with fail
                    refine (picI_any l2 d2 c4 c5 HV30.out HS30.out (by omega) (by omega) P _ HPI.out).mono ?_
                    rintro e w60 ⟨rfl, hb⟩
                    have HB60 := Lib.hid (HBY.out.trans (hb.mono HBY.out.size))
                    have HV60 := Lib.hid (HV30.out.below hb HV30.out.low)
                    have HS60 := Lib.hid (HS30.out.below hb HS30.out.low)
                    have BX60 := Lib.hid (BX30.out.all hb)
                    clear hb y0 y1 HBY HV30 HS30 BX30
                    have y0 := BX60.out.c0
                    have y1 := BX60.out.c1
                    go_wp2_with fail
                    refine (picS_any l2 d2 c4 c5 HV60.out HS60.out (by omega) (by omega) P _ HPI.out).mono ?_
                    rintro e w61 ⟨rfl, hb⟩
                    have HB61 := Lib.hid (HB60.out.trans (hb.mono HB60.out.size))
                    clear hb y0 y1 HB60 HV60 HS60 BX60 HPI
                    go_wp2_with fail
                    go_loopw [27, 28] (fun s v wr => ∃ k : Nat, k ≤ P.size ∧ v = .int .i64 k ∧ s = .int .i64 (cntL P k) ∧ Below w.heap.size w wr) (fun _ v _ => P.size - (intOf v).toNat)
                    case atStart => exact ⟨0, Nat.zero_le _, rfl, rfl, HB61.out⟩
                    case round =>
                      clear HB61
                      obtain ⟨k, hk, rfl, rfl, hbw⟩ := hrel
                      have HBW := Lib.hid hbw
                      obtain ⟨n0, n1⟩ := cntL_bd P k
                      have b0 := bt_nonneg P k
                      have b1 := bt_le P k
                      have hgb := get_bt P
                      clear hbw
                      by_cases hlt : k < P.size
                      · have hs := cntL_succ P k hlt
                        rw [hgb k hlt] at hs
                        have HSC := Lib.hid hs
                        clear hs
                        by_cases h97 : 97 ≤ bt P k
                        · by_cases h100 : bt P k ≤ 100
                          · go_wp2_with fail
                            go_roundw
                            case rel => exact ⟨k + 1, by omega, by go_num, by rw [HSC.out, if_pos ⟨h97, h100⟩], HBW.out⟩
                            case measure => simp [intOf]; omega
                          · go_wp2_with fail
                            go_roundw
                            case rel => exact ⟨k + 1, by omega, by go_num, by rw [HSC.out, if_neg (fun g => h100 g.2), Int.add_zero], HBW.out⟩
                            case measure => simp [intOf]; omega
                        · go_wp2_with fail
                          go_roundw
                          case rel => exact ⟨k + 1, by omega, by go_num, by rw [HSC.out, if_neg (fun g => h97 g.1), Int.add_zero], HBW.out⟩
                          case measure => simp [intOf]; omega
                      · obtain rfl : k = P.size := by omega
                        have hfin := HCN.out
                        rw [hfin]
                        clear n0 n1 b0 b1 hgb
                        have hxx : (x2 == x2) = true := by simp
                        go_wp2_with fail
                        go_ret
                        exact ⟨rfl, HBW.out⟩
                  · have hne : (a0 == b0) = false := by simp; omega
                    have hnl : ¬ b0 < a0 := by omega
                    have hnq : ¬ a0 = b0 := by omega
                    have hnd : decide (b0 < a0) = false := decide_eq_false hnl
                    go_wp2_with fail
                    refine wp_region_quiet_below (by kernel_rfl) (by kernel_rfl) ?_
                    repeat (go_big_quiet_step (first | fail))
                    refine wpQuiet_nil ?_
                    intro _ hw'
                    obtain ⟨⟨dq, osq⟩, hw''⟩ := hw'
                    subst hw''
                    have HBX := Lib.hid (HBW.out.trans ((below_regrown wr dq osq).mono HBW.out.size))
                    have HV29 := Lib.hid (HV28.out.below (below_regrown wr dq osq) HV28.out.low)
                    have HS29 := Lib.hid (HS28.out.below (below_regrown wr dq osq) HS28.out.low)
                    have HW29 := Lib.hid (HW28.out.below (below_regrown wr dq osq) HW28.out.low)
                    have BX29 := Lib.hid (BX28.out.all (below_regrown wr dq osq))
                    clear U0 U1 V0 V1 HBW HBQ HV28 HS28 HW28 BX28 HW27 HV27 HS27 BX27 hpre
                    dsimp only
                    generalize Go.Sort.grow (redrawn wr dq) osq = wc at HBX HV29 HS29 HW29 BX29 ⊢
                    obtain ⟨aU, eU, -, hUc⟩ := HW29.out.has.Spot (k := i) (by rw [HW29.out.len]; exact hlt)
                    injection eU with eU
                    subst eU
                    have u0 := hUc.c0
                    have u1 := hUc.c1
                    clear hUc
                    obtain ⟨aU, eU, -, hUc⟩ := HS29.out.has.Spot (k := i) (by rw [HS29.out.len]; exact hlt)
                    injection eU with eU
                    subst eU
                    have v0 := hUc.c0
                    have v1 := hUc.c1
                    clear hUc
                    simp only [addK, Nat.zero_add] at u0 u1 v0 v1
                    rw [HE0.out] at u0
                    rw [HE1.out] at u1
                    rw [HF0.out] at v0
                    rw [HF1.out] at v1
                    have U0 := fun (d : Nat) (os : Array Obj) => cell_regrown u0 d os
                    have U1 := fun (d : Nat) (os : Array Obj) => cell_regrown u1 d os
                    have V0 := fun (d : Nat) (os : Array Obj) => cell_regrown v0 d os
                    have V1 := fun (d : Nat) (os : Array Obj) => cell_regrown v1 d os
                    clear u0 u1 v0 v1
                    go_wp2_with fail
                    refine wp_region_quiet_below (by kernel_rfl) (by kernel_rfl) ?_
                    repeat (first | go_big_quiet_step (first | fail) | rw [hnd] | rw [hne])
                    refine wpQuiet_nil ?_
                    intro _ hw'
                    obtain ⟨⟨dq, osq⟩, hw''⟩ := hw'
                    subst hw''
                    have HBY := Lib.hid (HBX.out.trans ((below_regrown wc dq osq).mono HBX.out.size))
                    have HV30 := Lib.hid (HV29.out.below (below_regrown wc dq osq) HV29.out.low)
                    have HS30 := Lib.hid (HS29.out.below (below_regrown wc dq osq) HS29.out.low)
                    have BX30 := Lib.hid (BX29.out.all (below_regrown wc dq osq))
                    clear U0 U1 V0 V1 HBX HV29 HS29 HW29 BX29 HE0 HE1 HF0 HF1 HLX HL2
                    dsimp only
                    generalize Go.Sort.grow (redrawn wc dq) osq = wz at HBY HV30 HS30 BX30 ⊢
                    have y0 := BX30.out.c0
                    have y1 := BX30.out.c1
                    go_wp2_with fail
                    refine (picI_any l2 d2 c4 c5 HV30.out HS30.out (by omega) (by omega) P _ HPI.out).mono ?_
                    rintro e w60 ⟨rfl, hb⟩
                    have HB60 := Lib.hid (HBY.out.trans (hb.mono HBY.out.size))
                    have HV60 := Lib.hid (HV30.out.below hb HV30.out.low)
                    have HS60 := Lib.hid (HS30.out.below hb HS30.out.low)
                    have BX60 := Lib.hid (BX30.out.all hb)
                    clear hb y0 y1 HBY HV30 HS30 BX30
                    have y0 := BX60.out.c0
                    have y1 := BX60.out.c1
                    go_wp2_with fail
                    refine (picS_any l2 d2 c4 c5 HV60.out HS60.out (by omega) (by omega) P _ HPI.out).mono ?_
                    rintro e w61 ⟨rfl, hb⟩
                    have HB61 := Lib.hid (HB60.out.trans (hb.mono HB60.out.size))
                    clear hb y0 y1 HB60 HV60 HS60 BX60 HPI
                    go_wp2_with fail
                    go_loopw [27, 28] (fun s v wr => ∃ k : Nat, k ≤ P.size ∧ v = .int .i64 k ∧ s = .int .i64 (cntL P k) ∧ Below w.heap.size w wr) (fun _ v _ => P.size - (intOf v).toNat)
                    case atStart => exact ⟨0, Nat.zero_le _, rfl, rfl, HB61.out⟩
                    case round =>
                      clear HB61
                      obtain ⟨k, hk, rfl, rfl, hbw⟩ := hrel
                      have HBW := Lib.hid hbw
                      obtain ⟨n0, n1⟩ := cntL_bd P k
                      have b0 := bt_nonneg P k
                      have b1 := bt_le P k
                      have hgb := get_bt P
                      clear hbw
                      by_cases hlt : k < P.size
                      · have hs := cntL_succ P k hlt
                        rw [hgb k hlt] at hs
                        have HSC := Lib.hid hs
                        clear hs
                        by_cases h97 : 97 ≤ bt P k
                        · by_cases h100 : bt P k ≤ 100
                          · go_wp2_with fail
                            go_roundw
                            case rel => exact ⟨k + 1, by omega, by go_num, by rw [HSC.out, if_pos ⟨h97, h100⟩], HBW.out⟩
                            case measure => simp [intOf]; omega
                          · go_wp2_with fail
                            go_roundw
                            case rel => exact ⟨k + 1, by omega, by go_num, by rw [HSC.out, if_neg (fun g => h100 g.2), Int.add_zero], HBW.out⟩
                            case measure => simp [intOf]; omega
                        · go_wp2_with fail
                          go_roundw
                          case rel => exact ⟨k + 1, by omega, by go_num, by rw [HSC.out, if_neg (fun g => h97 g.1), Int.add_zero], HBW.out⟩
                          case measure => simp [intOf]; omega
                      · obtain rfl : k = P.size := by omega
                        have hfin := HCN.out
                        rw [hfin]
                        clear n0 n1 b0 b1 hgb
                        have hxx : (x2 == x2) = true := by simp
                        go_wp2_with fail
                        go_ret
                        exact ⟨rfl, HBW.out⟩
              · obtain rfl : i = k := by omega
                clear HBQ HW28 hpre HW27 HV27 HS27 BX27
                have y0 := BX28.out.c0
                have y1 := BX28.out.c1
                go_wp2_with fail
                refine (picI_any l2 d2 c4 c5 HV28.out HS28.out (by omega) (by omega) P _ HPI.out).mono ?_
                rintro e w60 ⟨rfl, hb⟩
                have HB60 := Lib.hid (HBW.out.trans (hb.mono HBW.out.size))
                have HV60 := Lib.hid (HV28.out.below hb HV28.out.low)
                have HS60 := Lib.hid (HS28.out.below hb HS28.out.low)
                have BX60 := Lib.hid (BX28.out.all hb)
                clear hb y0 y1 HBW HV28 HS28 BX28
                have y0 := BX60.out.c0
                have y1 := BX60.out.c1
                go_wp2_with fail
                refine (picS_any l2 d2 c4 c5 HV60.out HS60.out (by omega) (by omega) P _ HPI.out).mono ?_
                rintro e w61 ⟨rfl, hb⟩
                have HB61 := Lib.hid (HB60.out.trans (hb.mono HB60.out.size))
                clear hb y0 y1 HB60 HV60 HS60 BX60 HPI
                go_wp2_with fail
                go_loopw [27, 28] (fun s v wr => ∃ k : Nat, k ≤ P.size ∧ v = .int .i64 k ∧ s = .int .i64 (cntL P k) ∧ Below w.heap.size w wr) (fun _ v _ => P.size - (intOf v).toNat)
                case atStart => exact ⟨0, Nat.zero_le _, rfl, rfl, HB61.out⟩
                case round =>
                  clear HB61
                  obtain ⟨k, hk, rfl, rfl, hbw⟩ := hrel
                  have HBW := Lib.hid hbw
                  obtain ⟨n0, n1⟩ := cntL_bd P k
                  have b0 := bt_nonneg P k
                  have b1 := bt_le P k
                  have hgb := get_bt P
                  clear hbw
                  by_cases hlt : k < P.size
                  · have hs := cntL_succ P k hlt
                    rw [hgb k hlt] at hs
                    have HSC := Lib.hid hs
                    clear hs
                    by_cases h97 : 97 ≤ bt P k
                    · by_cases h100 : bt P k ≤ 100
                      · go_wp2_with fail
                        go_roundw
                        case rel => exact ⟨k + 1, by omega, by go_num, by rw [HSC.out, if_pos ⟨h97, h100⟩], HBW.out⟩
                        case measure => simp [intOf]; omega
                      · go_wp2_with fail
                        go_roundw
                        case rel => exact ⟨k + 1, by omega, by go_num, by rw [HSC.out, if_neg (fun g => h100 g.2), Int.add_zero], HBW.out⟩
                        case measure => simp [intOf]; omega
                    · go_wp2_with fail
                      go_roundw
                      case rel => exact ⟨k + 1, by omega, by go_num, by rw [HSC.out, if_neg (fun g => h97 g.1), Int.add_zero], HBW.out⟩
                      case measure => simp [intOf]; omega
                  · obtain rfl : k = P.size := by omega
                    have hfin := HCN.out
                    rw [hfin]
                    clear n0 n1 b0 b1 hgb
                    have hxx : (x2 == x2) = true := by simp
                    go_wp2_with fail
                    go_ret
                    exact ⟨rfl, HBW.out⟩
theorem own : ownKnob Try.prog.godebug = none := by kernel_rfl
theorem laidOut : laidOutB Try.prog = true := by kernel_rfl

set_option maxRecDepth 100000 in
theorem lifted (os : Os) (started : os.Started) (H : Type) (enc : TypeId × Value → H) :
    ReturnsInHanded {} Try.checked os 3 .any (Rows.fnPackingsSpec.pre6 enc Try.prog Try.f3 Rows.fnPackingsRow.domain false) (Rows.fnPackingsSpec.post enc Try.prog Try.f3 false true false false) := by
  refine returnsInHanded_of_change (C := Try.checked) own started (by kernel_rfl) Try.func3
    (ChangeSpec.witness6 (enc := enc) (C := Try.checked) false ⟨#[], #[.slice none 0 0], []⟩ 8 (by kernel_rfl) (by kernel_rfl) (by kernel_rfl) (by kernel_rfl)) ?_
  intro W base args ds gs before hval0 hW hcnd _
  have hval : ∀ (j : Nat) t v, Try.f3.params[j]? = some t → args[j]? = some v → Value.okWide Try.prog W .any base t v := hval0
  have hW' := hW
  obtain ⟨p, q, hA0, hV, rfl, hfz, hnd⟩ := hW
  have hA : DataW.TrodAll enc Try.prog W 0 (fun _ => true) true Try.f3.params.toList args.toList ds p := hA0
  rw [Try.params3] at hA hval
  obtain ⟨v0, vs0, d0, ds0, p0, q0, hargs, rfl, rfl, h0, r0⟩ := trodAll_cons hA
  obtain ⟨rfl, rfl, rfl⟩ := trodAll_nil r0
  obtain rfl : args = #[v0] := by cases args; simp_all
  obtain ⟨rfl, rfl⟩ := trodVars_none hV
  obtain ⟨a0, len0, cap0, rfl⟩ := okWide_slice Try.underlying22 (hval 0 22 v0 rfl rfl)
  have k0 := h0
  have lt0 : ∀ x ∈ p0, x.block < W.heap.size := by obtain ⟨m, hm⟩ := k0; exact DataW.trod_lt m _ _ _ hm
  obtain ⟨z0, w0⟩ : ∃ zs, IsInts .u8 W a0 len0 zs := by
    obtain ⟨fuel, hf⟩ := h0
    rcases open_ints Try.underlying22 Try.underlying5 (by kernel_rfl) hf with ⟨hcs, _⟩ | ⟨x, l, c, zs, hcs, _, hl, hm, hz, _, hcell, hwz⟩
    · simp [Value.cells] at hcs
      obtain ⟨rfl, rfl, rfl⟩ := hcs
      exact ⟨[], isInts_nil _ W⟩
    · simp [Value.cells] at hcs
      obtain ⟨rfl, rfl, rfl⟩ := hcs
      exact ⟨_, isInts_some hl hm (by simpa using hz) hcell hwz⟩
  clear hA0 hval0
  refine (walk a0 len0 cap0 z0 W w0).mono fun e W' ⟨he, bel⟩ => ?_
  subst he
  exact ⟨_, rfl, _, _, _, [], _, [], hW', trodAll_mk1 (shut_bool Try.underlying4 _), (trodAll_cons_mk (Below.trod laidOut (by kernel_rfl) (of_decide_eq_true (by kernel_rfl)) k0 bel lt0) trodAll_mk0), rfl, bel.frame _, fun h => by cases h⟩

theorem over : Rows.fnPackingsRow.holds Try.pinned (OpenSpec.ofChange Rows.fnPackingsSpec) :=
  OpenClaim.holds_of_wide 3 Try.f3 rfl rfl rfl rfl rfl rfl rfl ⟨rfl, rfl, rfl, rfl, rfl⟩ rfl rfl rfl rfl rfl (by kernel_rfl) Try.func3 (by kernel_rfl)
    (of_decide_eq_true (by kernel_rfl)) (by unfold Func.isWrapper; first | (rw [if_pos (by decide +kernel)]; kernel_rfl) | (rw [if_neg (by decide +kernel)]; exact ⟨rfl, rfl⟩))
    (fun os started H enc _ => lifted os started H enc)

/-- The statement. -/
theorem proved : Rows.FnPackingsSaid := over
end Go.Proofs.Ytdleidlmjliapaa.fnPackings
