/- FnWater holds: the total water changes by the net inflow, and water is moved only if it is there and has room; at every list of bytes. -/
import Derived.Test.YtliebicnejbheaaWbD
import Derived.Test.YtliebicnejbheaaWbM
import Derived.Test.YtliebicnejbheaaBig
import Derived.Test.YtliebicnejbheaaSt0
import Derived.OpenShut
import Derived.ShutString
import Derived.ChangeOld
import Derived.WalkLawsBesides
import Derived.Lib.SmallJoins
import Derived.Deep.RegionHeld3
namespace Go.Proofs.Ytliebicnejbheaa.fnWater
open Go.ChangeShapes Go.WideShapes Go.ChangeAt Go.RowKit
open Go.ChangeMaps (open_string shut_string)
set_option linter.unusedVariables false
set_option linter.unusedSimpArgs false

set_option maxRecDepth 100000 in
set_option maxHeartbeats 16000000 in
theorem walk (A : Option Addr) (n c : Nat) (zs : List Int) (w : World) (hI : IsInts .u8 w A n zs) :
    Calls Try.prog 3 #[.slice A n c] w fun e w' => e = .returned (.bool true) ∧ Below w.heap.size w w' := by
  by_cases hbig : 65536 < n
  · have CB := Lib.hid (bigL_yes A n c w hbig hI.2.1)
    clear hI
    go_enter Try.func3, Try.ntmps3
    go_wp2_with fail
    refine CB.out.mono ?_
    rintro e w1 ⟨rfl, rfl⟩
    go_wp2_with fail
    go_ret
    exact ⟨rfl, Below.refl _ _⟩
  · have CB := Lib.hid (bigL_no A n c w (by omega))
    have HC := Lib.hid (Code_.of hI (by omega))
    have D1 := Lib.hid (drawR_any c HC.out)
    clear hI hbig
    go_enter Try.func3, Try.ntmps3
    go_wp2_with fail
    refine CB.out.mono ?_
    rintro e w1 ⟨rfl, rfl⟩
    clear CB
    go_wp2_with fail
    refine D1.out.mono ?_
    rintro e w1 ⟨g1, c1, q, vs, g2, c2, m, fs, rfl, hq, hqc, hm, hmc, hV, hF, hb⟩
    have HB1 := Lib.hid hb
    have HV1 := Lib.hid hV
    have HF1 := Lib.hid hF
    obtain ⟨L, z, x, hA⟩ := runWA_ex vs fs
    obtain ⟨l, hl⟩ : ∃ k, L.length = k := ⟨_, rfl⟩
    have HL := Lib.hid hl
    have hl6 : l ≤ 6 := by rw [← hl]; exact hA.len
    have HA := Lib.hid hA
    have hzz : (z != z) = false := by simp
    have hxx : (x != x) = false := by simp
    clear D1 hV hF hb hA hl
    go_wp2_with fail
    refine (runI_any c1 c2 HV1.out (by omega) HF1.out (by omega) L z x HA.out l HL.out).mono ?_
    rintro e w2 ⟨g3, c3, rfl, ho, hb⟩
    have HB2 := Lib.hid (HB1.out.trans (hb.mono HB1.out.size))
    have HV2 := Lib.hid (HV1.out.below hb HV1.out.low)
    have HF2 := Lib.hid (HF1.out.below hb HF1.out.low)
    have HO2 := Lib.hid (own_Basins ho)
    clear hb ho HB1 HV1 HF1
    go_wp2_with fail
    refine (runS_any c1 c2 HV2.out (by omega) HF2.out (by omega) L z x HA.out l HL.out).mono ?_
    rintro e w3 ⟨g4, c4, rfl, ho, hb⟩
    have HB3 := Lib.hid (HB2.out.trans (hb.mono HB2.out.size))
    have HV3 := Lib.hid (HV2.out.below hb HV2.out.low)
    have HF3 := Lib.hid (HF2.out.below hb HF2.out.low)
    have HO3 := Lib.hid (HO2.out.below hb HO2.out.low)
    have HW3 := Lib.hid (own_Basins ho)
    clear hb ho HB2 HV2 HF2 HO2
    go_wp2_with fail
    refine (vBasins_same c3 c4 HO3.out HW3.out (by omega)).mono ?_
    rintro e w4 ⟨rfl, hb⟩
    have HB4 := Lib.hid (HB3.out.trans (hb.mono HB3.out.size))
    have HV4 := Lib.hid (HV3.out.below hb HV3.out.low)
    have HF4 := Lib.hid (HF3.out.below hb HF3.out.low)
    have HO4 := Lib.hid (HO3.out.below hb HO3.out.low)
    clear hb HB3 HV3 HF3 HO3 HW3
    cases x with
    | false =>
      clear HV4 HF4 HO4 HA
      have D2 := Lib.hid (drawM_any c (HC.out.on HB4.out))
      go_wp2_with fail
      refine D2.out.mono ?_
      rintro e w20 ⟨g3, c3, q3, vs3, f0, f1, f2, rfl, hq3, hqc3, hV, hb, -⟩
      have HB20 := Lib.hid (HB4.out.trans (hb.mono HB4.out.size))
      have hb2 := below1 w20 (.cells #[.int .i64 f0, .int .i64 f1, .int .i64 f2] 38)
      have HV3 := Lib.hid (hV.below hb2 hV.low)
      have BX3 := Lib.hid (BoxF.new w20 f0 f1 f2)
      have HB21 := Lib.hid (HB20.out.trans (hb2.mono HB20.out.size))
      obtain ⟨L3, x3, hA3⟩ := movA_ex vs3 ⟨f0, f1, f2⟩
      obtain ⟨l3, hl3⟩ : ∃ k, L3.length = k := ⟨_, rfl⟩
      have HL3 := Lib.hid hl3
      have hl36 : l3 ≤ 6 := by rw [← hl3]; exact hA3.len
      have HA3 := Lib.hid hA3
      obtain ⟨R3, hR3⟩ : ∃ R, R = (gBs vs3 && gF q3 ⟨f0, f1, f2⟩) := ⟨_, rfl⟩
      have HR3 := Lib.hid hR3
      have hx3 : (x3 != x3) = false := by simp
      have hr3 : (R3 != R3) = false := by simp
      clear D2 hV hb hb2 HB20 hA3 hl3 hR3 HB4
      go_wp2_with fail
      obtain ⟨w21, hw21⟩ : ∃ W, (w20.alloc (.cells #[.int .i64 f0, .int .i64 f1, .int .i64 f2] 38)) = W := ⟨_, rfl⟩
      obtain ⟨xf, hxf⟩ : ∃ x, w20.heap.size = x := ⟨_, rfl⟩
      rw [hw21] at HV3 BX3 HB21 ⊢
      rw [hxf] at BX3
      try simp only [hxf]
      clear hw21 hxf
      refine (moveI_any c3 HV3.out (by omega) f0 f1 f2 L3 x3 HA3.out l3 HL3.out).mono ?_
      rintro e w22 ⟨g4, c4, rfl, ho4, hb⟩
      have HB22 := Lib.hid (HB21.out.trans (hb.mono HB21.out.size))
      have HV4 := Lib.hid (HV3.out.below hb HV3.out.low)
      have BX4 := Lib.hid (BX3.out.all hb)
      have HY4 := Lib.hid (own_Basins ho4)
      clear hb ho4 HB21 HV3 BX3
      have y0 := BX4.out.c0
      have y1 := BX4.out.c1
      have y2 := BX4.out.c2
      go_wp2_with fail
      refine (moveS_any c3 HV4.out (by omega) f0 f1 f2 L3 x3 HA3.out l3 HL3.out).mono ?_
      rintro e w23 ⟨g5, c5, rfl, ho5, hb⟩
      have HB23 := Lib.hid (HB22.out.trans (hb.mono HB22.out.size))
      have HV5 := Lib.hid (HV4.out.below hb HV4.out.low)
      have HY5 := Lib.hid (HY4.out.below hb HY4.out.low)
      have BX5 := Lib.hid (BX4.out.all hb)
      have HZ5 := Lib.hid (own_Basins ho5)
      clear hb ho5 HB22 HV4 BX4 HY4 y0 y1 y2
      go_wp2_with fail
      have y0 := BX5.out.c0
      have y1 := BX5.out.c1
      have y2 := BX5.out.c2
      have E0 := fun (d : Nat) (os : Array Obj) => cell_regrown y0 d os
      have E1 := fun (d : Nat) (os : Array Obj) => cell_regrown y1 d os
      have E2 := fun (d : Nat) (os : Array Obj) => cell_regrown y2 d os
      have k1 := fun (dr : Nat) (os : Array Obj) => Calls.regrown_of (w := w23) (d := dr) (os := os) (vBasins_same c4 c5 (HY5.out.all.below (below_regrown w23 dr os) (Nat.le_refl _)) (HZ5.out.all.below (below_regrown w23 dr os) (Nat.le_refl _)) (by omega))
      have k2 := fun (dr : Nat) (os : Array Obj) => Calls.regrown_of (w := w23) (d := dr) (os := os) (isFlowI_any c3 (HV5.out.all.below (below_regrown w23 dr os) (Nat.le_refl _)) (by unfold maxLen; omega) f0 f1 f2 R3 HR3.out)
      have k3 := fun (dr : Nat) (os : Array Obj) => Calls.regrown_of (w := w23) (d := dr) (os := os) (isFlowS_any c3 (HV5.out.all.below (below_regrown w23 dr os) (Nat.le_refl _)) (by unfold maxLen; omega) f0 f1 f2 R3 HR3.out)
      clear y0 y1 y2
      refine wp_region_quiet_below (by kernel_rfl) (by kernel_rfl) ?_
      repeat (go_big_quiet_step (first | exact k1 _ _ | exact k2 _ _ | exact k3 _ _))
      refine wpQuiet_nil ?_
      intro _ hw'
      obtain ⟨⟨dq, osq⟩, hw''⟩ := hw'
      subst hw''
      have HB24 := Lib.hid (HB23.out.trans ((below_regrown w23 dq osq).mono HB23.out.size))
      have HV6 := Lib.hid (HV5.out.all.below (below_regrown w23 dq osq) (Nat.le_refl _)).all
      have HY6 := Lib.hid (HY5.out.all.below (below_regrown w23 dq osq) (Nat.le_refl _)).all
      have BX6 := Lib.hid (BX5.out.all (below_regrown w23 dq osq))
      clear E0 E1 E2 k1 k2 k3 HV5 HY5 HZ5 BX5 HB23
      dsimp only
      generalize Go.Sort.grow (redrawn w23 dq) osq = w24 at HB24 HV6 HY6 BX6 ⊢
      cases x3 with
      | false =>
        clear HV6 HY6 BX6 HA3
        have D2 := Lib.hid (drawN_any c (HC.out.on HB24.out))
        go_wp2_with fail
        refine D2.out.mono ?_
        rintro e w40 ⟨g8, c8, q8, us, g9, c9, m9, es, rfl, hq8, hqc8, hm9, hmc9, hU, hE, hb⟩
        have HB40 := Lib.hid (HB24.out.trans (hb.mono HB24.out.size))
        have HU := Lib.hid hU
        have HE := Lib.hid hE
        obtain ⟨z4, x4, hA4⟩ := netA_ex us es
        have HA4 := Lib.hid hA4
        have hz4 : (z4 != z4) = false := by simp
        have hx4 : (x4 != x4) = false := by simp
        clear D2 hU hE hb hA4 HB24
        go_wp2_with fail
        refine (netI_any c8 c9 HU.out (by omega) HE.out (by omega) z4 x4 HA4.out).mono ?_
        rintro e w41 ⟨rfl, hb⟩
        have HB41 := Lib.hid (HB40.out.trans (hb.mono HB40.out.size))
        have HU1 := Lib.hid (HU.out.below hb HU.out.low)
        have HE1 := Lib.hid (HE.out.below hb HE.out.low)
        clear hb HB40 HU HE
        go_wp2_with fail
        refine (netS_any c8 c9 HU1.out (by omega) HE1.out (by omega) z4 x4 HA4.out).mono ?_
        rintro e w42 ⟨rfl, hb⟩
        have HB42 := Lib.hid (HB41.out.trans (hb.mono HB41.out.size))
        clear hb HB41 HU1 HE1 HA4
        have D3 := Lib.hid (drawT_any c (HC.out.on HB42.out))
        go_wp2_with fail
        refine D3.out.mono ?_
        rintro e w43 ⟨g8, c8, q8, us, rfl, hq8, hqc8, hU, hb⟩
        have HB43 := Lib.hid (HB42.out.trans (hb.mono HB42.out.size))
        have HU := Lib.hid hU
        obtain ⟨z5, x5, hA5⟩ := totA_ex us
        have HA5 := Lib.hid hA5
        have HT5 := Lib.hid hA5.told
        have hz5 : (z5 == z5) = true := by simp
        have hx5 : (x5 == x5) = true := by simp
        clear D3 hU hb hA5 HB42
        go_wp2_with fail
        refine (totI_any c8 HU.out (by omega) z5 x5 HA5.out).mono ?_
        rintro e w44 ⟨rfl, hb⟩
        have HB44 := Lib.hid (HB43.out.trans (hb.mono HB43.out.size))
        have HU1 := Lib.hid (HU.out.below hb HU.out.low)
        clear hb HB43 HU
        go_wp2_with fail
        refine (totS_any c8 HU1.out (by omega) z5 x5 HA5.out).mono ?_
        rintro e w45 ⟨rfl, hb⟩
        have HB45 := Lib.hid (HB44.out.trans (hb.mono HB44.out.size))
        have HU2 := Lib.hid (HU1.out.below hb HU1.out.low)
        clear hb HB44 HU1 HA5
        have C5 := Lib.hid (areBasins_any c8 HU2.out (by unfold maxLen; omega))
        rw [← HT5.out] at C5
        go_wp2_with fail
        refine C5.out.mono ?_
        rintro e w46 ⟨rfl, hb⟩
        have HB46 := Lib.hid (HB45.out.trans (hb.mono HB45.out.size))
        clear hb C5 HB45 HU2 HT5
        go_wp2_with fail
        go_ret
        exact ⟨rfl, HB46.out⟩
      | true =>
        obtain ⟨hlm, hl6, hback⟩ := HA3.out.back
        have HBK := Lib.hid hback
        have hlq : l3 = q3 := by rw [← HL3.out, hlm, HV6.out.len]
        subst hlq
        have y0 := BX6.out.c0
        have y1 := BX6.out.c1
        have y2 := BX6.out.c2
        clear hback hlm HA3
        go_wp2_with fail
        refine (moveI_any c4 HY6.out (by omega) f1 f0 f2 vs3 true HBK.out l3 HV6.out.len).mono ?_
        rintro e w25 ⟨g6, c6, rfl, ho6, hb⟩
        have HB25 := Lib.hid (HB24.out.trans (hb.mono HB24.out.size))
        have HV7 := Lib.hid (HV6.out.below hb HV6.out.low)
        have HY7 := Lib.hid (own_Basins ho6)
        clear hb ho6 HB24 HV6 HY6 BX6 HBK y0 y1 y2
        go_wp2_with fail
        refine (vBasins_same c6 c3 HY7.out HV7.out (by omega)).mono ?_
        rintro e w26 ⟨rfl, hb⟩
        have HB26 := Lib.hid (HB25.out.trans (hb.mono HB25.out.size))
        clear hb HB25 HV7 HY7
        have D2 := Lib.hid (drawN_any c (HC.out.on HB26.out))
        go_wp2_with fail
        refine D2.out.mono ?_
        rintro e w40 ⟨g8, c8, q8, us, g9, c9, m9, es, rfl, hq8, hqc8, hm9, hmc9, hU, hE, hb⟩
        have HB40 := Lib.hid (HB26.out.trans (hb.mono HB26.out.size))
        have HU := Lib.hid hU
        have HE := Lib.hid hE
        obtain ⟨z4, x4, hA4⟩ := netA_ex us es
        have HA4 := Lib.hid hA4
        have hz4 : (z4 != z4) = false := by simp
        have hx4 : (x4 != x4) = false := by simp
        clear D2 hU hE hb hA4 HB26
        go_wp2_with fail
        refine (netI_any c8 c9 HU.out (by omega) HE.out (by omega) z4 x4 HA4.out).mono ?_
        rintro e w41 ⟨rfl, hb⟩
        have HB41 := Lib.hid (HB40.out.trans (hb.mono HB40.out.size))
        have HU1 := Lib.hid (HU.out.below hb HU.out.low)
        have HE1 := Lib.hid (HE.out.below hb HE.out.low)
        clear hb HB40 HU HE
        go_wp2_with fail
        refine (netS_any c8 c9 HU1.out (by omega) HE1.out (by omega) z4 x4 HA4.out).mono ?_
        rintro e w42 ⟨rfl, hb⟩
        have HB42 := Lib.hid (HB41.out.trans (hb.mono HB41.out.size))
        clear hb HB41 HU1 HE1 HA4
        have D3 := Lib.hid (drawT_any c (HC.out.on HB42.out))
        go_wp2_with fail
        refine D3.out.mono ?_
        rintro e w43 ⟨g8, c8, q8, us, rfl, hq8, hqc8, hU, hb⟩
        have HB43 := Lib.hid (HB42.out.trans (hb.mono HB42.out.size))
        have HU := Lib.hid hU
        obtain ⟨z5, x5, hA5⟩ := totA_ex us
        have HA5 := Lib.hid hA5
        have HT5 := Lib.hid hA5.told
        have hz5 : (z5 == z5) = true := by simp
        have hx5 : (x5 == x5) = true := by simp
        clear D3 hU hb hA5 HB42
        go_wp2_with fail
        refine (totI_any c8 HU.out (by omega) z5 x5 HA5.out).mono ?_
        rintro e w44 ⟨rfl, hb⟩
        have HB44 := Lib.hid (HB43.out.trans (hb.mono HB43.out.size))
        have HU1 := Lib.hid (HU.out.below hb HU.out.low)
        clear hb HB43 HU
        go_wp2_with fail
        refine (totS_any c8 HU1.out (by omega) z5 x5 HA5.out).mono ?_
        rintro e w45 ⟨rfl, hb⟩
        have HB45 := Lib.hid (HB44.out.trans (hb.mono HB44.out.size))
        have HU2 := Lib.hid (HU1.out.below hb HU1.out.low)
        clear hb HB44 HU1 HA5
        have C5 := Lib.hid (areBasins_any c8 HU2.out (by unfold maxLen; omega))
        rw [← HT5.out] at C5
        go_wp2_with fail
        refine C5.out.mono ?_
        rintro e w46 ⟨rfl, hb⟩
        have HB46 := Lib.hid (HB45.out.trans (hb.mono HB45.out.size))
        clear hb C5 HB45 HU2 HT5
        go_wp2_with fail
        go_ret
        exact ⟨rfl, HB46.out⟩
    | true =>
      obtain ⟨M, t, d, rfl, hR⟩ := HA.out.facts
      have HR := Lib.hid hR
      have hM : M ≤ m := by rw [← HF4.out.len]; exact hR.le
      have hq6 : q ≤ 6 := by rw [← HV4.out.len]; exact hR.low
      have hlq : l = q := by rw [← HL.out, hR.len, HV4.out.len]
      subst hlq
      have hbt := hR.bt
      have hbd := hR.bd
      clear hR HA
      go_wp2_with fail
      refine (totI_any c1 HV4.out (by omega) t true HR.out.t0).mono ?_
      rintro e w5 ⟨rfl, hb⟩
      have HB5 := Lib.hid (HB4.out.trans (hb.mono HB4.out.size))
      have HV5 := Lib.hid (HV4.out.below hb HV4.out.low)
      have HF5 := Lib.hid (HF4.out.below hb HF4.out.low)
      have HO5 := Lib.hid (HO4.out.below hb HO4.out.low)
      clear hb HB4 HV4 HF4 HO4
      go_wp2_with fail
      refine (totI_any c3 HO5.out (by omega) (t + d) true HR.out.t1).mono ?_
      rintro e w6 ⟨rfl, hb⟩
      have HB6 := Lib.hid (HB5.out.trans (hb.mono HB5.out.size))
      have HV6 := Lib.hid (HV5.out.below hb HV5.out.low)
      have HF6 := Lib.hid (HF5.out.below hb HF5.out.low)
      have HO6 := Lib.hid (HO5.out.below hb HO5.out.low)
      have hM0 : (0 : Int) ≤ (M : Int) := by omega
      have hMc : (M : Int) ≤ (c2 : Int) := by omega
      clear hb HB5 HV5 HF5 HO5
      go_wp2_with fail
      refine (netI_any c1 c2 HV6.out (by omega) (HF6.out.take hM) (by omega) d true HR.out.net).mono ?_
      rintro e w7 ⟨rfl, hb⟩
      have HB7 := Lib.hid (HB6.out.trans (hb.mono HB6.out.size))
      have HF7 := Lib.hid (HF6.out.below hb HF6.out.low)
      have HO7 := Lib.hid (HO6.out.below hb HO6.out.low)
      have hdd : ((t + d - t) != d) = false := by simp; omega
      have C8 := Lib.hid (areBasins_any c3 HO7.out (by unfold maxLen; omega))
      rw [HR.out.good] at C8
      clear hb HB6 HV6 HF6 HO6
      go_wp2_with fail
      refine C8.out.mono ?_
      rintro e w8 ⟨rfl, hb⟩
      have HB8 := Lib.hid (HB7.out.trans (hb.mono HB7.out.size))
      have HF8 := Lib.hid (HF7.out.below hb HF7.out.low)
      have HO8 := Lib.hid (HO7.out.below hb HO7.out.low)
      clear hb C8 HB7 HF7 HO7 hdd
      by_cases hlt : M < m
      · obtain ⟨a2, ea2, -, HVV⟩ := HF8.out.has.Flow (k := M) (by rw [HF8.out.len]; exact hlt)
        injection ea2 with ea2
        subst ea2
        have hst := HR.out.stop (by rw [HF8.out.len]; exact hlt)
        obtain ⟨V, hVe⟩ : ∃ V, fs.getD M noFlow = V := ⟨_, rfl⟩
        rw [hVe] at HVV hst
        clear hVe
        obtain ⟨b0, b1, b2⟩ := V
        obtain ⟨e0, e1, e2⟩ := HVV
        dsimp only at e0 e1 e2
        have C9 := Lib.hid (moveI_any c3 HO8.out (by omega) b0 b1 b2 [] false hst 0 rfl)
        have hMi : (M : Int) < (m : Int) := by omega
        simp only [addO, Nat.zero_add] at e0 e1 e2
        clear hst HR
        go_wp2_with fail
        refine C9.out.mono ?_
        rintro e w9 ⟨g9, c9, rfl, ho9, hb⟩
        have HB9 := Lib.hid (HB8.out.trans (hb.mono HB8.out.size))
        clear hb ho9 C9 HB8 HF8 HO8 e0 e1 e2
        have D2 := Lib.hid (drawM_any c (HC.out.on HB9.out))
        go_wp2_with fail
        refine D2.out.mono ?_
        rintro e w20 ⟨g3, c3, q3, vs3, f0, f1, f2, rfl, hq3, hqc3, hV, hb, -⟩
        have HB20 := Lib.hid (HB9.out.trans (hb.mono HB9.out.size))
        have hb2 := below1 w20 (.cells #[.int .i64 f0, .int .i64 f1, .int .i64 f2] 38)
        have HV3 := Lib.hid (hV.below hb2 hV.low)
        have BX3 := Lib.hid (BoxF.new w20 f0 f1 f2)
        have HB21 := Lib.hid (HB20.out.trans (hb2.mono HB20.out.size))
        obtain ⟨L3, x3, hA3⟩ := movA_ex vs3 ⟨f0, f1, f2⟩
        obtain ⟨l3, hl3⟩ : ∃ k, L3.length = k := ⟨_, rfl⟩
        have HL3 := Lib.hid hl3
        have hl36 : l3 ≤ 6 := by rw [← hl3]; exact hA3.len
        have HA3 := Lib.hid hA3
        obtain ⟨R3, hR3⟩ : ∃ R, R = (gBs vs3 && gF q3 ⟨f0, f1, f2⟩) := ⟨_, rfl⟩
        have HR3 := Lib.hid hR3
        have hx3 : (x3 != x3) = false := by simp
        have hr3 : (R3 != R3) = false := by simp
        clear D2 hV hb hb2 HB20 hA3 hl3 hR3 HB9
        go_wp2_with fail
        obtain ⟨w21, hw21⟩ : ∃ W, (w20.alloc (.cells #[.int .i64 f0, .int .i64 f1, .int .i64 f2] 38)) = W := ⟨_, rfl⟩
        obtain ⟨xf, hxf⟩ : ∃ x, w20.heap.size = x := ⟨_, rfl⟩
        rw [hw21] at HV3 BX3 HB21 ⊢
        rw [hxf] at BX3
        try simp only [hxf]
        clear hw21 hxf
        refine (moveI_any c3 HV3.out (by omega) f0 f1 f2 L3 x3 HA3.out l3 HL3.out).mono ?_
        rintro e w22 ⟨g4, c4, rfl, ho4, hb⟩
        have HB22 := Lib.hid (HB21.out.trans (hb.mono HB21.out.size))
        have HV4 := Lib.hid (HV3.out.below hb HV3.out.low)
        have BX4 := Lib.hid (BX3.out.all hb)
        have HY4 := Lib.hid (own_Basins ho4)
        clear hb ho4 HB21 HV3 BX3
        have y0 := BX4.out.c0
        have y1 := BX4.out.c1
        have y2 := BX4.out.c2
        go_wp2_with fail
        refine (moveS_any c3 HV4.out (by omega) f0 f1 f2 L3 x3 HA3.out l3 HL3.out).mono ?_
        rintro e w23 ⟨g5, c5, rfl, ho5, hb⟩
        have HB23 := Lib.hid (HB22.out.trans (hb.mono HB22.out.size))
        have HV5 := Lib.hid (HV4.out.below hb HV4.out.low)
        have HY5 := Lib.hid (HY4.out.below hb HY4.out.low)
        have BX5 := Lib.hid (BX4.out.all hb)
        have HZ5 := Lib.hid (own_Basins ho5)
        clear hb ho5 HB22 HV4 BX4 HY4 y0 y1 y2
        go_wp2_with fail
        have y0 := BX5.out.c0
        have y1 := BX5.out.c1
        have y2 := BX5.out.c2
        have E0 := fun (d : Nat) (os : Array Obj) => cell_regrown y0 d os
        have E1 := fun (d : Nat) (os : Array Obj) => cell_regrown y1 d os
        have E2 := fun (d : Nat) (os : Array Obj) => cell_regrown y2 d os
        have k1 := fun (dr : Nat) (os : Array Obj) => Calls.regrown_of (w := w23) (d := dr) (os := os) (vBasins_same c4 c5 (HY5.out.all.below (below_regrown w23 dr os) (Nat.le_refl _)) (HZ5.out.all.below (below_regrown w23 dr os) (Nat.le_refl _)) (by omega))
        have k2 := fun (dr : Nat) (os : Array Obj) => Calls.regrown_of (w := w23) (d := dr) (os := os) (isFlowI_any c3 (HV5.out.all.below (below_regrown w23 dr os) (Nat.le_refl _)) (by unfold maxLen; omega) f0 f1 f2 R3 HR3.out)
        have k3 := fun (dr : Nat) (os : Array Obj) => Calls.regrown_of (w := w23) (d := dr) (os := os) (isFlowS_any c3 (HV5.out.all.below (below_regrown w23 dr os) (Nat.le_refl _)) (by unfold maxLen; omega) f0 f1 f2 R3 HR3.out)
        clear y0 y1 y2
        refine wp_region_quiet_below (by kernel_rfl) (by kernel_rfl) ?_
        repeat (go_big_quiet_step (first | exact k1 _ _ | exact k2 _ _ | exact k3 _ _))
        refine wpQuiet_nil ?_
        intro _ hw'
        obtain ⟨⟨dq, osq⟩, hw''⟩ := hw'
        subst hw''
        have HB24 := Lib.hid (HB23.out.trans ((below_regrown w23 dq osq).mono HB23.out.size))
        have HV6 := Lib.hid (HV5.out.all.below (below_regrown w23 dq osq) (Nat.le_refl _)).all
        have HY6 := Lib.hid (HY5.out.all.below (below_regrown w23 dq osq) (Nat.le_refl _)).all
        have BX6 := Lib.hid (BX5.out.all (below_regrown w23 dq osq))
        clear E0 E1 E2 k1 k2 k3 HV5 HY5 HZ5 BX5 HB23
        dsimp only
        generalize Go.Sort.grow (redrawn w23 dq) osq = w24 at HB24 HV6 HY6 BX6 ⊢
        cases x3 with
        | false =>
          clear HV6 HY6 BX6 HA3
          have D2 := Lib.hid (drawN_any c (HC.out.on HB24.out))
          go_wp2_with fail
          refine D2.out.mono ?_
          rintro e w40 ⟨g8, c8, q8, us, g9, c9, m9, es, rfl, hq8, hqc8, hm9, hmc9, hU, hE, hb⟩
          have HB40 := Lib.hid (HB24.out.trans (hb.mono HB24.out.size))
          have HU := Lib.hid hU
          have HE := Lib.hid hE
          obtain ⟨z4, x4, hA4⟩ := netA_ex us es
          have HA4 := Lib.hid hA4
          have hz4 : (z4 != z4) = false := by simp
          have hx4 : (x4 != x4) = false := by simp
          clear D2 hU hE hb hA4 HB24
          go_wp2_with fail
          refine (netI_any c8 c9 HU.out (by omega) HE.out (by omega) z4 x4 HA4.out).mono ?_
          rintro e w41 ⟨rfl, hb⟩
          have HB41 := Lib.hid (HB40.out.trans (hb.mono HB40.out.size))
          have HU1 := Lib.hid (HU.out.below hb HU.out.low)
          have HE1 := Lib.hid (HE.out.below hb HE.out.low)
          clear hb HB40 HU HE
          go_wp2_with fail
          refine (netS_any c8 c9 HU1.out (by omega) HE1.out (by omega) z4 x4 HA4.out).mono ?_
          rintro e w42 ⟨rfl, hb⟩
          have HB42 := Lib.hid (HB41.out.trans (hb.mono HB41.out.size))
          clear hb HB41 HU1 HE1 HA4
          have D3 := Lib.hid (drawT_any c (HC.out.on HB42.out))
          go_wp2_with fail
          refine D3.out.mono ?_
          rintro e w43 ⟨g8, c8, q8, us, rfl, hq8, hqc8, hU, hb⟩
          have HB43 := Lib.hid (HB42.out.trans (hb.mono HB42.out.size))
          have HU := Lib.hid hU
          obtain ⟨z5, x5, hA5⟩ := totA_ex us
          have HA5 := Lib.hid hA5
          have HT5 := Lib.hid hA5.told
          have hz5 : (z5 == z5) = true := by simp
          have hx5 : (x5 == x5) = true := by simp
          clear D3 hU hb hA5 HB42
          go_wp2_with fail
          refine (totI_any c8 HU.out (by omega) z5 x5 HA5.out).mono ?_
          rintro e w44 ⟨rfl, hb⟩
          have HB44 := Lib.hid (HB43.out.trans (hb.mono HB43.out.size))
          have HU1 := Lib.hid (HU.out.below hb HU.out.low)
          clear hb HB43 HU
          go_wp2_with fail
          refine (totS_any c8 HU1.out (by omega) z5 x5 HA5.out).mono ?_
          rintro e w45 ⟨rfl, hb⟩
          have HB45 := Lib.hid (HB44.out.trans (hb.mono HB44.out.size))
          have HU2 := Lib.hid (HU1.out.below hb HU1.out.low)
          clear hb HB44 HU1 HA5
          have C5 := Lib.hid (areBasins_any c8 HU2.out (by unfold maxLen; omega))
          rw [← HT5.out] at C5
          go_wp2_with fail
          refine C5.out.mono ?_
          rintro e w46 ⟨rfl, hb⟩
          have HB46 := Lib.hid (HB45.out.trans (hb.mono HB45.out.size))
          clear hb C5 HB45 HU2 HT5
          go_wp2_with fail
          go_ret
          exact ⟨rfl, HB46.out⟩
        | true =>
          obtain ⟨hlm, hl6, hback⟩ := HA3.out.back
          have HBK := Lib.hid hback
          have hlq : l3 = q3 := by rw [← HL3.out, hlm, HV6.out.len]
          subst hlq
          have y0 := BX6.out.c0
          have y1 := BX6.out.c1
          have y2 := BX6.out.c2
          clear hback hlm HA3
          go_wp2_with fail
          refine (moveI_any c4 HY6.out (by omega) f1 f0 f2 vs3 true HBK.out l3 HV6.out.len).mono ?_
          rintro e w25 ⟨g6, c6, rfl, ho6, hb⟩
          have HB25 := Lib.hid (HB24.out.trans (hb.mono HB24.out.size))
          have HV7 := Lib.hid (HV6.out.below hb HV6.out.low)
          have HY7 := Lib.hid (own_Basins ho6)
          clear hb ho6 HB24 HV6 HY6 BX6 HBK y0 y1 y2
          go_wp2_with fail
          refine (vBasins_same c6 c3 HY7.out HV7.out (by omega)).mono ?_
          rintro e w26 ⟨rfl, hb⟩
          have HB26 := Lib.hid (HB25.out.trans (hb.mono HB25.out.size))
          clear hb HB25 HV7 HY7
          have D2 := Lib.hid (drawN_any c (HC.out.on HB26.out))
          go_wp2_with fail
          refine D2.out.mono ?_
          rintro e w40 ⟨g8, c8, q8, us, g9, c9, m9, es, rfl, hq8, hqc8, hm9, hmc9, hU, hE, hb⟩
          have HB40 := Lib.hid (HB26.out.trans (hb.mono HB26.out.size))
          have HU := Lib.hid hU
          have HE := Lib.hid hE
          obtain ⟨z4, x4, hA4⟩ := netA_ex us es
          have HA4 := Lib.hid hA4
          have hz4 : (z4 != z4) = false := by simp
          have hx4 : (x4 != x4) = false := by simp
          clear D2 hU hE hb hA4 HB26
          go_wp2_with fail
          refine (netI_any c8 c9 HU.out (by omega) HE.out (by omega) z4 x4 HA4.out).mono ?_
          rintro e w41 ⟨rfl, hb⟩
          have HB41 := Lib.hid (HB40.out.trans (hb.mono HB40.out.size))
          have HU1 := Lib.hid (HU.out.below hb HU.out.low)
          have HE1 := Lib.hid (HE.out.below hb HE.out.low)
          clear hb HB40 HU HE
          go_wp2_with fail
          refine (netS_any c8 c9 HU1.out (by omega) HE1.out (by omega) z4 x4 HA4.out).mono ?_
          rintro e w42 ⟨rfl, hb⟩
          have HB42 := Lib.hid (HB41.out.trans (hb.mono HB41.out.size))
          clear hb HB41 HU1 HE1 HA4
          have D3 := Lib.hid (drawT_any c (HC.out.on HB42.out))
          go_wp2_with fail
          refine D3.out.mono ?_
          rintro e w43 ⟨g8, c8, q8, us, rfl, hq8, hqc8, hU, hb⟩
          have HB43 := Lib.hid (HB42.out.trans (hb.mono HB42.out.size))
          have HU := Lib.hid hU
          obtain ⟨z5, x5, hA5⟩ := totA_ex us
          have HA5 := Lib.hid hA5
          have HT5 := Lib.hid hA5.told
          have hz5 : (z5 == z5) = true := by simp
          have hx5 : (x5 == x5) = true := by simp
          clear D3 hU hb hA5 HB42
          go_wp2_with fail
          refine (totI_any c8 HU.out (by omega) z5 x5 HA5.out).mono ?_
          rintro e w44 ⟨rfl, hb⟩
          have HB44 := Lib.hid (HB43.out.trans (hb.mono HB43.out.size))
          have HU1 := Lib.hid (HU.out.below hb HU.out.low)
          clear hb HB43 HU
          go_wp2_with fail
          refine (totS_any c8 HU1.out (by omega) z5 x5 HA5.out).mono ?_
          rintro e w45 ⟨rfl, hb⟩
          have HB45 := Lib.hid (HB44.out.trans (hb.mono HB44.out.size))
          have HU2 := Lib.hid (HU1.out.below hb HU1.out.low)
          clear hb HB44 HU1 HA5
          have C5 := Lib.hid (areBasins_any c8 HU2.out (by unfold maxLen; omega))
          rw [← HT5.out] at C5
          go_wp2_with fail
          refine C5.out.mono ?_
          rintro e w46 ⟨rfl, hb⟩
          have HB46 := Lib.hid (HB45.out.trans (hb.mono HB45.out.size))
          clear hb C5 HB45 HU2 HT5
          go_wp2_with fail
          go_ret
          exact ⟨rfl, HB46.out⟩
      · have hMi : ¬ (M : Int) < (m : Int) := by omega
        clear HR HF8 HO8
        have D2 := Lib.hid (drawM_any c (HC.out.on HB8.out))
        go_wp2_with fail
        refine D2.out.mono ?_
        rintro e w20 ⟨g3, c3, q3, vs3, f0, f1, f2, rfl, hq3, hqc3, hV, hb, -⟩
        have HB20 := Lib.hid (HB8.out.trans (hb.mono HB8.out.size))
        have hb2 := below1 w20 (.cells #[.int .i64 f0, .int .i64 f1, .int .i64 f2] 38)
        have HV3 := Lib.hid (hV.below hb2 hV.low)
        have BX3 := Lib.hid (BoxF.new w20 f0 f1 f2)
        have HB21 := Lib.hid (HB20.out.trans (hb2.mono HB20.out.size))
        obtain ⟨L3, x3, hA3⟩ := movA_ex vs3 ⟨f0, f1, f2⟩
        obtain ⟨l3, hl3⟩ : ∃ k, L3.length = k := ⟨_, rfl⟩
        have HL3 := Lib.hid hl3
        have hl36 : l3 ≤ 6 := by rw [← hl3]; exact hA3.len
        have HA3 := Lib.hid hA3
        obtain ⟨R3, hR3⟩ : ∃ R, R = (gBs vs3 && gF q3 ⟨f0, f1, f2⟩) := ⟨_, rfl⟩
        have HR3 := Lib.hid hR3
        have hx3 : (x3 != x3) = false := by simp
        have hr3 : (R3 != R3) = false := by simp
        clear D2 hV hb hb2 HB20 hA3 hl3 hR3 HB8
        go_wp2_with fail
        obtain ⟨w21, hw21⟩ : ∃ W, (w20.alloc (.cells #[.int .i64 f0, .int .i64 f1, .int .i64 f2] 38)) = W := ⟨_, rfl⟩
        obtain ⟨xf, hxf⟩ : ∃ x, w20.heap.size = x := ⟨_, rfl⟩
        rw [hw21] at HV3 BX3 HB21 ⊢
        rw [hxf] at BX3
        try simp only [hxf]
        clear hw21 hxf
        refine (moveI_any c3 HV3.out (by omega) f0 f1 f2 L3 x3 HA3.out l3 HL3.out).mono ?_
        rintro e w22 ⟨g4, c4, rfl, ho4, hb⟩
        have HB22 := Lib.hid (HB21.out.trans (hb.mono HB21.out.size))
        have HV4 := Lib.hid (HV3.out.below hb HV3.out.low)
        have BX4 := Lib.hid (BX3.out.all hb)
        have HY4 := Lib.hid (own_Basins ho4)
        clear hb ho4 HB21 HV3 BX3
        have y0 := BX4.out.c0
        have y1 := BX4.out.c1
        have y2 := BX4.out.c2
        go_wp2_with fail
        refine (moveS_any c3 HV4.out (by omega) f0 f1 f2 L3 x3 HA3.out l3 HL3.out).mono ?_
        rintro e w23 ⟨g5, c5, rfl, ho5, hb⟩
        have HB23 := Lib.hid (HB22.out.trans (hb.mono HB22.out.size))
        have HV5 := Lib.hid (HV4.out.below hb HV4.out.low)
        have HY5 := Lib.hid (HY4.out.below hb HY4.out.low)
        have BX5 := Lib.hid (BX4.out.all hb)
        have HZ5 := Lib.hid (own_Basins ho5)
        clear hb ho5 HB22 HV4 BX4 HY4 y0 y1 y2
        go_wp2_with fail
        have y0 := BX5.out.c0
        have y1 := BX5.out.c1
        have y2 := BX5.out.c2
        have E0 := fun (d : Nat) (os : Array Obj) => cell_regrown y0 d os
        have E1 := fun (d : Nat) (os : Array Obj) => cell_regrown y1 d os
        have E2 := fun (d : Nat) (os : Array Obj) => cell_regrown y2 d os
        have k1 := fun (dr : Nat) (os : Array Obj) => Calls.regrown_of (w := w23) (d := dr) (os := os) (vBasins_same c4 c5 (HY5.out.all.below (below_regrown w23 dr os) (Nat.le_refl _)) (HZ5.out.all.below (below_regrown w23 dr os) (Nat.le_refl _)) (by omega))
        have k2 := fun (dr : Nat) (os : Array Obj) => Calls.regrown_of (w := w23) (d := dr) (os := os) (isFlowI_any c3 (HV5.out.all.below (below_regrown w23 dr os) (Nat.le_refl _)) (by unfold maxLen; omega) f0 f1 f2 R3 HR3.out)
        have k3 := fun (dr : Nat) (os : Array Obj) => Calls.regrown_of (w := w23) (d := dr) (os := os) (isFlowS_any c3 (HV5.out.all.below (below_regrown w23 dr os) (Nat.le_refl _)) (by unfold maxLen; omega) f0 f1 f2 R3 HR3.out)
        clear y0 y1 y2
        refine wp_region_quiet_below (by kernel_rfl) (by kernel_rfl) ?_
        repeat (go_big_quiet_step (first | exact k1 _ _ | exact k2 _ _ | exact k3 _ _))
        refine wpQuiet_nil ?_
        intro _ hw'
        obtain ⟨⟨dq, osq⟩, hw''⟩ := hw'
        subst hw''
        have HB24 := Lib.hid (HB23.out.trans ((below_regrown w23 dq osq).mono HB23.out.size))
        have HV6 := Lib.hid (HV5.out.all.below (below_regrown w23 dq osq) (Nat.le_refl _)).all
        have HY6 := Lib.hid (HY5.out.all.below (below_regrown w23 dq osq) (Nat.le_refl _)).all
        have BX6 := Lib.hid (BX5.out.all (below_regrown w23 dq osq))
        clear E0 E1 E2 k1 k2 k3 HV5 HY5 HZ5 BX5 HB23
        dsimp only
        generalize Go.Sort.grow (redrawn w23 dq) osq = w24 at HB24 HV6 HY6 BX6 ⊢
        cases x3 with
        | false =>
          clear HV6 HY6 BX6 HA3
          have D2 := Lib.hid (drawN_any c (HC.out.on HB24.out))
          go_wp2_with fail
          refine D2.out.mono ?_
          rintro e w40 ⟨g8, c8, q8, us, g9, c9, m9, es, rfl, hq8, hqc8, hm9, hmc9, hU, hE, hb⟩
          have HB40 := Lib.hid (HB24.out.trans (hb.mono HB24.out.size))
          have HU := Lib.hid hU
          have HE := Lib.hid hE
          obtain ⟨z4, x4, hA4⟩ := netA_ex us es
          have HA4 := Lib.hid hA4
          have hz4 : (z4 != z4) = false := by simp
          have hx4 : (x4 != x4) = false := by simp
          clear D2 hU hE hb hA4 HB24
          go_wp2_with fail
          refine (netI_any c8 c9 HU.out (by omega) HE.out (by omega) z4 x4 HA4.out).mono ?_
          rintro e w41 ⟨rfl, hb⟩
          have HB41 := Lib.hid (HB40.out.trans (hb.mono HB40.out.size))
          have HU1 := Lib.hid (HU.out.below hb HU.out.low)
          have HE1 := Lib.hid (HE.out.below hb HE.out.low)
          clear hb HB40 HU HE
          go_wp2_with fail
          refine (netS_any c8 c9 HU1.out (by omega) HE1.out (by omega) z4 x4 HA4.out).mono ?_
          rintro e w42 ⟨rfl, hb⟩
          have HB42 := Lib.hid (HB41.out.trans (hb.mono HB41.out.size))
          clear hb HB41 HU1 HE1 HA4
          have D3 := Lib.hid (drawT_any c (HC.out.on HB42.out))
          go_wp2_with fail
          refine D3.out.mono ?_
          rintro e w43 ⟨g8, c8, q8, us, rfl, hq8, hqc8, hU, hb⟩
          have HB43 := Lib.hid (HB42.out.trans (hb.mono HB42.out.size))
          have HU := Lib.hid hU
          obtain ⟨z5, x5, hA5⟩ := totA_ex us
          have HA5 := Lib.hid hA5
          have HT5 := Lib.hid hA5.told
          have hz5 : (z5 == z5) = true := by simp
          have hx5 : (x5 == x5) = true := by simp
          clear D3 hU hb hA5 HB42
          go_wp2_with fail
          refine (totI_any c8 HU.out (by omega) z5 x5 HA5.out).mono ?_
          rintro e w44 ⟨rfl, hb⟩
          have HB44 := Lib.hid (HB43.out.trans (hb.mono HB43.out.size))
          have HU1 := Lib.hid (HU.out.below hb HU.out.low)
          clear hb HB43 HU
          go_wp2_with fail
          refine (totS_any c8 HU1.out (by omega) z5 x5 HA5.out).mono ?_
          rintro e w45 ⟨rfl, hb⟩
          have HB45 := Lib.hid (HB44.out.trans (hb.mono HB44.out.size))
          have HU2 := Lib.hid (HU1.out.below hb HU1.out.low)
          clear hb HB44 HU1 HA5
          have C5 := Lib.hid (areBasins_any c8 HU2.out (by unfold maxLen; omega))
          rw [← HT5.out] at C5
          go_wp2_with fail
          refine C5.out.mono ?_
          rintro e w46 ⟨rfl, hb⟩
          have HB46 := Lib.hid (HB45.out.trans (hb.mono HB45.out.size))
          clear hb C5 HB45 HU2 HT5
          go_wp2_with fail
          go_ret
          exact ⟨rfl, HB46.out⟩
        | true =>
          obtain ⟨hlm, hl6, hback⟩ := HA3.out.back
          have HBK := Lib.hid hback
          have hlq : l3 = q3 := by rw [← HL3.out, hlm, HV6.out.len]
          subst hlq
          have y0 := BX6.out.c0
          have y1 := BX6.out.c1
          have y2 := BX6.out.c2
          clear hback hlm HA3
          go_wp2_with fail
          refine (moveI_any c4 HY6.out (by omega) f1 f0 f2 vs3 true HBK.out l3 HV6.out.len).mono ?_
          rintro e w25 ⟨g6, c6, rfl, ho6, hb⟩
          have HB25 := Lib.hid (HB24.out.trans (hb.mono HB24.out.size))
          have HV7 := Lib.hid (HV6.out.below hb HV6.out.low)
          have HY7 := Lib.hid (own_Basins ho6)
          clear hb ho6 HB24 HV6 HY6 BX6 HBK y0 y1 y2
          go_wp2_with fail
          refine (vBasins_same c6 c3 HY7.out HV7.out (by omega)).mono ?_
          rintro e w26 ⟨rfl, hb⟩
          have HB26 := Lib.hid (HB25.out.trans (hb.mono HB25.out.size))
          clear hb HB25 HV7 HY7
          have D2 := Lib.hid (drawN_any c (HC.out.on HB26.out))
          go_wp2_with fail
          refine D2.out.mono ?_
          rintro e w40 ⟨g8, c8, q8, us, g9, c9, m9, es, rfl, hq8, hqc8, hm9, hmc9, hU, hE, hb⟩
          have HB40 := Lib.hid (HB26.out.trans (hb.mono HB26.out.size))
          have HU := Lib.hid hU
          have HE := Lib.hid hE
          obtain ⟨z4, x4, hA4⟩ := netA_ex us es
          have HA4 := Lib.hid hA4
          have hz4 : (z4 != z4) = false := by simp
          have hx4 : (x4 != x4) = false := by simp
          clear D2 hU hE hb hA4 HB26
          go_wp2_with fail
          refine (netI_any c8 c9 HU.out (by omega) HE.out (by omega) z4 x4 HA4.out).mono ?_
          rintro e w41 ⟨rfl, hb⟩
          have HB41 := Lib.hid (HB40.out.trans (hb.mono HB40.out.size))
          have HU1 := Lib.hid (HU.out.below hb HU.out.low)
          have HE1 := Lib.hid (HE.out.below hb HE.out.low)
          clear hb HB40 HU HE
          go_wp2_with fail
          refine (netS_any c8 c9 HU1.out (by omega) HE1.out (by omega) z4 x4 HA4.out).mono ?_
          rintro e w42 ⟨rfl, hb⟩
          have HB42 := Lib.hid (HB41.out.trans (hb.mono HB41.out.size))
          clear hb HB41 HU1 HE1 HA4
          have D3 := Lib.hid (drawT_any c (HC.out.on HB42.out))
          go_wp2_with fail
          refine D3.out.mono ?_
          rintro e w43 ⟨g8, c8, q8, us, rfl, hq8, hqc8, hU, hb⟩
          have HB43 := Lib.hid (HB42.out.trans (hb.mono HB42.out.size))
          have HU := Lib.hid hU
          obtain ⟨z5, x5, hA5⟩ := totA_ex us
          have HA5 := Lib.hid hA5
          have HT5 := Lib.hid hA5.told
          have hz5 : (z5 == z5) = true := by simp
          have hx5 : (x5 == x5) = true := by simp
          clear D3 hU hb hA5 HB42
          go_wp2_with fail
          refine (totI_any c8 HU.out (by omega) z5 x5 HA5.out).mono ?_
          rintro e w44 ⟨rfl, hb⟩
          have HB44 := Lib.hid (HB43.out.trans (hb.mono HB43.out.size))
          have HU1 := Lib.hid (HU.out.below hb HU.out.low)
          clear hb HB43 HU
          go_wp2_with fail
          refine (totS_any c8 HU1.out (by omega) z5 x5 HA5.out).mono ?_
          rintro e w45 ⟨rfl, hb⟩
          have HB45 := Lib.hid (HB44.out.trans (hb.mono HB44.out.size))
          have HU2 := Lib.hid (HU1.out.below hb HU1.out.low)
          clear hb HB44 HU1 HA5
          have C5 := Lib.hid (areBasins_any c8 HU2.out (by unfold maxLen; omega))
          rw [← HT5.out] at C5
          go_wp2_with fail
          refine C5.out.mono ?_
          rintro e w46 ⟨rfl, hb⟩
          have HB46 := Lib.hid (HB45.out.trans (hb.mono HB45.out.size))
          clear hb C5 HB45 HU2 HT5
          go_wp2_with fail
          go_ret
          exact ⟨rfl, HB46.out⟩
theorem own : ownKnob Try.prog.godebug = none := by kernel_rfl
theorem laidOut : laidOutB Try.prog = true := by kernel_rfl

set_option maxRecDepth 100000 in
theorem lifted (os : Os) (started : os.Started) (H : Type) (enc : TypeId × Value → H) :
    ReturnsInHanded {} Try.checked os 3 .any (Rows.fnWaterSpec.pre6 enc Try.prog Try.f3 Rows.fnWaterRow.domain false) (Rows.fnWaterSpec.post enc Try.prog Try.f3 false true false false) := by
  refine returnsInHanded_of_change (C := Try.checked) own started (by kernel_rfl) Try.func3
    (ChangeSpec.witness6 (enc := enc) (C := Try.checked) false ⟨#[], #[.slice none 0 0], []⟩ 8 (by kernel_rfl) (by kernel_rfl) (by kernel_rfl) (by kernel_rfl)) ?_
  intro W base args ds gs before hval0 hW hcnd _
  have hval : ∀ (j : Nat) t v, Try.f3.params[j]? = some t → args[j]? = some v → Value.okWide Try.prog W .any base t v := hval0
  have hW' := hW
  obtain ⟨p, q, hA0, hV, rfl, hfz, hnd⟩ := hW
  have hA : DataW.TrodAll enc Try.prog W 0 (fun _ => true) true Try.f3.params.toList args.toList ds p := hA0
  rw [Try.params3] at hA hval
  obtain ⟨v0, vs0, d0, ds0, p0, q0, hargs, rfl, rfl, h0, r0⟩ := trodAll_cons hA
  obtain ⟨rfl, rfl, rfl⟩ := trodAll_nil r0
  obtain rfl : args = #[v0] := by cases args; simp_all
  obtain ⟨rfl, rfl⟩ := trodVars_none hV
  obtain ⟨a0, len0, cap0, rfl⟩ := okWide_slice Try.underlying22 (hval 0 22 v0 rfl rfl)
  have k0 := h0
  have lt0 : ∀ x ∈ p0, x.block < W.heap.size := by obtain ⟨m, hm⟩ := k0; exact DataW.trod_lt m _ _ _ hm
  obtain ⟨z0, w0⟩ : ∃ zs, IsInts .u8 W a0 len0 zs := by
    obtain ⟨fuel, hf⟩ := h0
    rcases open_ints Try.underlying22 Try.underlying5 (by kernel_rfl) hf with ⟨hcs, _⟩ | ⟨x, l, c, zs, hcs, _, hl, hm, hz, _, hcell, hwz⟩
    · simp [Value.cells] at hcs
      obtain ⟨rfl, rfl, rfl⟩ := hcs
      exact ⟨[], isInts_nil _ W⟩
    · simp [Value.cells] at hcs
      obtain ⟨rfl, rfl, rfl⟩ := hcs
      exact ⟨_, isInts_some hl hm (by simpa using hz) hcell hwz⟩
  clear hA0 hval0
  refine (walk a0 len0 cap0 z0 W w0).mono fun e W' ⟨he, bel⟩ => ?_
  subst he
  exact ⟨_, rfl, _, _, _, [], _, [], hW', trodAll_mk1 (shut_bool Try.underlying4 _), (trodAll_cons_mk (Below.trod laidOut (by kernel_rfl) (of_decide_eq_true (by kernel_rfl)) k0 bel lt0) trodAll_mk0), rfl, bel.frame _, fun h => by cases h⟩

theorem over : Rows.fnWaterRow.holds Try.pinned (OpenSpec.ofChange Rows.fnWaterSpec) :=
  OpenClaim.holds_of_wide 3 Try.f3 rfl rfl rfl rfl rfl rfl rfl ⟨rfl, rfl, rfl, rfl, rfl⟩ rfl rfl rfl rfl rfl (by kernel_rfl) Try.func3 (by kernel_rfl)
    (of_decide_eq_true (by kernel_rfl)) (by unfold Func.isWrapper; first | (rw [if_pos (by decide +kernel)]; kernel_rfl) | (rw [if_neg (by decide +kernel)]; exact ⟨rfl, rfl⟩))
    (fun os started H enc _ => lifted os started H enc)

/-- The statement. -/
theorem proved : Rows.FnWaterSaid := over
end Go.Proofs.Ytliebicnejbheaa.fnWater
