/- FnSaving holds: draining and filling keep all water, no order that is drawn saves more than the best one, and the share is that of the chamber; at every list of bytes. -/
import Derived.Test.YtgnopkemcgbedaaPpE
import Derived.Test.YtgnopkemcgbedaaPoI
import Derived.Test.YtgnopkemcgbedaaPoJ
import Derived.Test.YtgnopkemcgbedaaPoL
import Derived.Test.YtgnopkemcgbedaaSeBig
import Derived.Test.YtgnopkemcgbedaaSt0
import Derived.OpenShut
import Derived.ShutString
import Derived.ChangeOld
import Derived.WalkLawsBesides
import Derived.Lib.SmallJoins
import Derived.Deep.RegionHeld3
namespace Go.Proofs.Ytgnopkemcgbedaa.fnSaving
open Go.ChangeShapes Go.WideShapes Go.ChangeAt Go.RowKit
open Go.ChangeMaps (open_string shut_string)
set_option linter.unusedVariables false
set_option linter.unusedSimpArgs false

set_option maxRecDepth 100000 in
set_option maxHeartbeats 16000000 in
theorem walk (A : Option Addr) (n c : Nat) (zs : List Int) (w : World) (hI : IsInts .u8 w A n zs) :
    Calls Try.prog 4 #[.slice A n c] w fun e w' => e = .returned (.bool true) ∧ Below w.heap.size w w' := by
  by_cases hbig : 65536 < n
  · have CB := Lib.hid (rBig_any A n c w hI.2.1)
    rw [decide_eq_true (show (65536 : Int) < (n : Int) by omega)] at CB
    clear hI
    go_enter Try.func4, Try.ntmps4
    go_wp2_with fail
    refine CB.out.mono ?_
    rintro e w1 ⟨rfl, rfl⟩
    go_wp2_with fail
    go_ret
    exact ⟨rfl, Below.refl _ _⟩
  · have CB := Lib.hid (rBig_any A n c w hI.2.1)
    rw [decide_eq_false (show ¬ (65536 : Int) < (n : Int) by omega)] at CB
    have HC := Lib.hid (Code_.of hI (by omega))
    have D1 := Lib.hid (drawDr_any c HC.out)
    clear hI hbig
    go_enter Try.func4, Try.ntmps4
    go_wp2_with fail
    refine CB.out.mono ?_
    rintro e w1 ⟨rfl, rfl⟩
    clear CB
    go_wp2_with fail
    refine D1.out.mono ?_
    rintro e w1 ⟨g1, c1, q, vs, g2, c2, m, os, rfl, hq, hqc, hm, hmc, hV, hO, hb⟩
    have HB1 := Lib.hid hb
    have HV1 := Lib.hid hV
    have HO1 := Lib.hid hO
    have HOL := Lib.hid hO.len
    obtain ⟨L, z, x, hA⟩ := runP_ex vs os true
    obtain ⟨l, hl⟩ : ∃ k, L.length = k := ⟨_, rfl⟩
    have HL := Lib.hid hl
    have hl6 : l ≤ 5 := by rw [← hl]; exact hA.len
    have HA := Lib.hid hA
    have hzz : (z != z) = false := by simp
    have hxx : (x != x) = false := by simp
    obtain ⟨K, y, u, hK⟩ := runP_ex vs os false
    obtain ⟨k, hk⟩ : ∃ k, K.length = k := ⟨_, rfl⟩
    have HKL := Lib.hid hk
    have hk6 : k ≤ 5 := by rw [← hk]; exact hK.len
    have HK := Lib.hid hK
    have hyy : (y != y) = false := by simp
    have huu : (u != u) = false := by simp
    clear D1 hV hO hb hA hl hK hk
    go_wp2_with fail
    refine (drainI_any c1 c2 HV1.out (by omega) HO1.out (by omega) hmc L z x HA.out l HL.out).mono ?_
    rintro e w2 ⟨g3, c3, rfl, ho, hb⟩
    have HB2 := Lib.hid (HB1.out.trans (hb.mono HB1.out.size))
    have HV2 := Lib.hid (HV1.out.below hb HV1.out.low)
    have HO2 := Lib.hid (HO1.out.below hb HO1.out.low)
    have HN2 := Lib.hid (own_Pools ho)
    clear hb ho HB1 HV1 HO1
    go_wp2_with fail
    refine (drainS_any c1 c2 HV2.out (by omega) HO2.out (by omega) hmc L z x HA.out l HL.out).mono ?_
    rintro e w3 ⟨g4, c4, rfl, ho, hb⟩
    have HB3 := Lib.hid (HB2.out.trans (hb.mono HB2.out.size))
    have HV3 := Lib.hid (HV2.out.below hb HV2.out.low)
    have HO3 := Lib.hid (HO2.out.below hb HO2.out.low)
    have HN3 := Lib.hid (HN2.out.below hb HN2.out.low)
    have HW3 := Lib.hid (own_Pools ho)
    clear hb ho HB2 HV2 HO2 HN2
    go_wp2_with fail
    refine (rPools_same c3 c4 HN3.out HW3.out (by omega)).mono ?_
    rintro e w4 ⟨rfl, hb⟩
    have HB4 := Lib.hid (HB3.out.trans (hb.mono HB3.out.size))
    have HV4 := Lib.hid (HV3.out.below hb HV3.out.low)
    have HO4 := Lib.hid (HO3.out.below hb HO3.out.low)
    have HN4 := Lib.hid (HN3.out.below hb HN3.out.low)
    clear hb HB3 HV3 HO3 HN3 HW3
    go_wp2_with fail
    refine (fillI_any c1 c2 HV4.out (by omega) HO4.out (by omega) hmc K y u HK.out k HKL.out).mono ?_
    rintro e w5 ⟨g5, c5, rfl, ho, hb⟩
    have HB5 := Lib.hid (HB4.out.trans (hb.mono HB4.out.size))
    have HV5 := Lib.hid (HV4.out.below hb HV4.out.low)
    have HO5 := Lib.hid (HO4.out.below hb HO4.out.low)
    have HN5 := Lib.hid (HN4.out.below hb HN4.out.low)
    have HF5 := Lib.hid (own_Pools ho)
    clear hb ho HB4 HV4 HO4 HN4
    go_wp2_with fail
    refine (fillS_any c1 c2 HV5.out (by omega) HO5.out (by omega) hmc K y u HK.out k HKL.out).mono ?_
    rintro e w6 ⟨g6, c6, rfl, ho, hb⟩
    have HB6 := Lib.hid (HB5.out.trans (hb.mono HB5.out.size))
    have HV6 := Lib.hid (HV5.out.below hb HV5.out.low)
    have HN6 := Lib.hid (HN5.out.below hb HN5.out.low)
    have HF6 := Lib.hid (HF5.out.below hb HF5.out.low)
    have HW6 := Lib.hid (own_Pools ho)
    clear hb ho HB5 HV5 HO5 HN5 HF5
    go_wp2_with fail
    refine (rPools_same c5 c6 HF6.out HW6.out (by omega)).mono ?_
    rintro e w7 ⟨rfl, hb⟩
    have HB7 := Lib.hid (HB6.out.trans (hb.mono HB6.out.size))
    have HV7 := Lib.hid (HV6.out.below hb HV6.out.low)
    have HN7 := Lib.hid (HN6.out.below hb HN6.out.low)
    clear hb HB6 HV6 HN6 HF6 HW6 HK HKL
    cases x with
    | false =>
      clear HN7 HA HL
      obtain ⟨Bs, mo, x4, hA4⟩ := besA_ex vs
      obtain ⟨l4, hl4⟩ : ∃ k, Bs.length = k := ⟨_, rfl⟩
      have HL4 := Lib.hid hl4
      have hl44 : l4 ≤ 4 := by rw [← hl4]; exact hA4.len
      have HA4 := Lib.hid hA4
      have hmm4 : (mo != mo) = false := by simp
      have hx4 : (x4 != x4) = false := by simp
      clear hA4 hl4
      go_wp2_with fail
      refine (bestI_any c1 HV7.out (by omega) Bs mo x4 HA4.out l4 HL4.out).mono ?_
      rintro e w40 ⟨g6, c6, rfl, ho, hb⟩
      have HB40 := Lib.hid (HB7.out.trans (hb.mono HB7.out.size))
      have HV40 := Lib.hid (HV7.out.below hb HV7.out.low)
      have hlc6 := own_capP ho
      have HI40 := Lib.hid (own_IsIs ho)
      clear hb ho HB7 HV7
      go_wp2_with fail
      refine (bestS_any c1 HV40.out (by omega) Bs mo x4 HA4.out l4 HL4.out).mono ?_
      rintro e w41 ⟨g7, c7, rfl, ho, hb⟩
      have HB41 := Lib.hid (HB40.out.trans (hb.mono HB40.out.size))
      have HV41 := Lib.hid (HV40.out.below hb HV40.out.low)
      have HI41 := Lib.hid (HI40.out.below hb HI40.out.low)
      have HS41 := Lib.hid (own_IsIs ho)
      clear hb ho HB40 HV40 HI40
      go_wp2_with fail
      refine (rInts_same _ _ l4 c6 c7 _ _ Bs _ HL4.out (by unfold maxLen; omega) HI41.out.has HS41.out.has).mono ?_
      rintro e w42 ⟨rfl, hd⟩
      have hb := (hd.below w41.heap.size)
      have HB42 := Lib.hid (HB41.out.trans (hb.mono HB41.out.size))
      have HV42 := Lib.hid (HV41.out.below hb HV41.out.low)
      have HI42 := Lib.hid (HI41.out.below hb HI41.out.low)
      clear hb hd HB41 HV41 HI41 HS41
      cases x4 with
      | false =>
        clear HV42 HI42 HA4 HL4
        have D3 := Lib.hid (drawSh_any c (HC.out.on HB42.out))
        go_wp2_with fail
        refine D3.out.mono ?_
        rintro e w60 ⟨g8, c8, q8, us, g9, c9, m9, ps, rfl, hq8, hqc8, hm9, hmc9, hU, hP, hb⟩
        have HB60 := Lib.hid (HB42.out.trans (hb.mono HB42.out.size))
        have HU := Lib.hid hU
        have HP := Lib.hid hP
        obtain ⟨p5, r5, x5, hA5⟩ := shrA_ex us ps
        have HA5 := Lib.hid hA5
        have hp5 : (p5 != p5) = false := by simp
        have hr5 : (r5 != r5) = false := by simp
        have hx5 : (x5 != x5) = false := by simp
        clear D3 hU hP hb hA5 HB42
        go_wp2_with fail
        refine (shareI_any c8 c9 HU.out (by omega) HP.out (by omega) hmc9 p5 r5 x5 HA5.out).mono ?_
        rintro e w61 ⟨rfl, hb⟩
        have HB61 := Lib.hid (HB60.out.trans (hb.mono HB60.out.size))
        have HU1 := Lib.hid (HU.out.below hb HU.out.low)
        have HP1 := Lib.hid (HP.out.below hb HP.out.low)
        clear hb HB60 HU HP
        go_wp2_with fail
        refine (shareS_any c8 c9 HU1.out (by omega) HP1.out (by omega) hmc9 p5 r5 x5 HA5.out).mono ?_
        rintro e w62 ⟨rfl, hb⟩
        have HB62 := Lib.hid (HB61.out.trans (hb.mono HB61.out.size))
        have HU2 := Lib.hid (HU1.out.below hb HU1.out.low)
        have HP2 := Lib.hid (HP1.out.below hb HP1.out.low)
        clear hb HB61 HU1 HP1
        cases x5 with
        | false =>
          clear HU2 HP2 HA5
          go_wp2_with fail
          go_ret
          exact ⟨rfl, HB62.out⟩
        | true =>
          obtain ⟨L5, z5, hR5, hl5, hlo, heq5, hm50, hm51⟩ := HA5.out.same
          have HR5 := Lib.hid hR5
          have hq0 : (0 : Int) < (q8 : Int) := by rw [← HU2.out.len]; omega
          obtain ⟨U5, hU5⟩ : ∃ U, us.getD 0 noPool = U := ⟨_, rfl⟩
          rw [hU5] at heq5 hm50 hm51
          have HE5 := Lib.hid hU5
          obtain ⟨u0, u1, u2⟩ := U5
          dsimp only at heq5 hm50 hm51
          have hzz0 : 0 ≤ z5 * r5 := by omega
          have hzz1 : z5 * r5 ≤ 40000000000 := by omega
          have hfin : (p5 * u2 == z5 * r5) = true := by rw [heq5]; simp
          clear HA5 hR5 hU5
          go_wp2_with fail
          refine (drainI_any c8 c9 HU2.out (by omega) HP2.out (by omega) hmc9 L5 z5 true HR5.out L5.length rfl).mono ?_
          rintro e w63 ⟨g10, c10, rfl, ho, hb⟩
          have HB63 := Lib.hid (HB62.out.trans (hb.mono HB62.out.size))
          have HU3 := Lib.hid (HU2.out.below hb HU2.out.low)
          clear hb ho HB62 HU2 HP2 HR5
          obtain ⟨a2, ea2, -, HVV⟩ := HU3.out.has.Pool (k := 0) (by rw [HU3.out.len]; omega)
          injection ea2 with ea2
          subst ea2
          rw [HE5.out] at HVV
          have y2 : w63.cell? ⟨g8, 2, none⟩ = some (.int .i64 u2) := by simpa [addO] using HVV.c2
          have y3 : w63.cell? ⟨g8, 0 + 2, none⟩ = some (.int .i64 u2) := by simpa using y2
          clear HVV
          clear HU3 HE5 heq5 hlo hl5
          go_wp2_with fail
          go_ret
          exact ⟨rfl, HB63.out⟩
      | true =>
        obtain ⟨⟨L4, hR4, hl45⟩, hbest⟩ := HA4.out.facts
        have HR4 := Lib.hid hR4
        have HBE := Lib.hid hbest
        clear hR4 hbest HA4
        go_wp2_with fail
        refine (drainI_any c1 c6 HV42.out (by omega) HI42.out (by omega) hlc6 L4 mo true HR4.out L4.length rfl).mono ?_
        rintro e w43 ⟨g10, c10, rfl, ho, hb⟩
        have HB43 := Lib.hid (HB42.out.trans (hb.mono HB42.out.size))
        clear hb ho HB42 HI42 HR4 HL4
        clear HBE HV42
        go_wp2_with fail
        have D3 := Lib.hid (drawSh_any c (HC.out.on HB43.out))
        go_wp2_with fail
        refine D3.out.mono ?_
        rintro e w60 ⟨g8, c8, q8, us, g9, c9, m9, ps, rfl, hq8, hqc8, hm9, hmc9, hU, hP, hb⟩
        have HB60 := Lib.hid (HB43.out.trans (hb.mono HB43.out.size))
        have HU := Lib.hid hU
        have HP := Lib.hid hP
        obtain ⟨p5, r5, x5, hA5⟩ := shrA_ex us ps
        have HA5 := Lib.hid hA5
        have hp5 : (p5 != p5) = false := by simp
        have hr5 : (r5 != r5) = false := by simp
        have hx5 : (x5 != x5) = false := by simp
        clear D3 hU hP hb hA5 HB43
        go_wp2_with fail
        refine (shareI_any c8 c9 HU.out (by omega) HP.out (by omega) hmc9 p5 r5 x5 HA5.out).mono ?_
        rintro e w61 ⟨rfl, hb⟩
        have HB61 := Lib.hid (HB60.out.trans (hb.mono HB60.out.size))
        have HU1 := Lib.hid (HU.out.below hb HU.out.low)
        have HP1 := Lib.hid (HP.out.below hb HP.out.low)
        clear hb HB60 HU HP
        go_wp2_with fail
        refine (shareS_any c8 c9 HU1.out (by omega) HP1.out (by omega) hmc9 p5 r5 x5 HA5.out).mono ?_
        rintro e w62 ⟨rfl, hb⟩
        have HB62 := Lib.hid (HB61.out.trans (hb.mono HB61.out.size))
        have HU2 := Lib.hid (HU1.out.below hb HU1.out.low)
        have HP2 := Lib.hid (HP1.out.below hb HP1.out.low)
        clear hb HB61 HU1 HP1
        cases x5 with
        | false =>
          clear HU2 HP2 HA5
          go_wp2_with fail
          go_ret
          exact ⟨rfl, HB62.out⟩
        | true =>
          obtain ⟨L5, z5, hR5, hl5, hlo, heq5, hm50, hm51⟩ := HA5.out.same
          have HR5 := Lib.hid hR5
          have hq0 : (0 : Int) < (q8 : Int) := by rw [← HU2.out.len]; omega
          obtain ⟨U5, hU5⟩ : ∃ U, us.getD 0 noPool = U := ⟨_, rfl⟩
          rw [hU5] at heq5 hm50 hm51
          have HE5 := Lib.hid hU5
          obtain ⟨u0, u1, u2⟩ := U5
          dsimp only at heq5 hm50 hm51
          have hzz0 : 0 ≤ z5 * r5 := by omega
          have hzz1 : z5 * r5 ≤ 40000000000 := by omega
          have hfin : (p5 * u2 == z5 * r5) = true := by rw [heq5]; simp
          clear HA5 hR5 hU5
          go_wp2_with fail
          refine (drainI_any c8 c9 HU2.out (by omega) HP2.out (by omega) hmc9 L5 z5 true HR5.out L5.length rfl).mono ?_
          rintro e w63 ⟨g10, c10, rfl, ho, hb⟩
          have HB63 := Lib.hid (HB62.out.trans (hb.mono HB62.out.size))
          have HU3 := Lib.hid (HU2.out.below hb HU2.out.low)
          clear hb ho HB62 HU2 HP2 HR5
          obtain ⟨a2, ea2, -, HVV⟩ := HU3.out.has.Pool (k := 0) (by rw [HU3.out.len]; omega)
          injection ea2 with ea2
          subst ea2
          rw [HE5.out] at HVV
          have y2 : w63.cell? ⟨g8, 2, none⟩ = some (.int .i64 u2) := by simpa [addO] using HVV.c2
          have y3 : w63.cell? ⟨g8, 0 + 2, none⟩ = some (.int .i64 u2) := by simpa using y2
          clear HVV
          clear HU3 HE5 heq5 hlo hl5
          go_wp2_with fail
          go_ret
          exact ⟨rfl, HB63.out⟩
    | true =>
      obtain ⟨t, hR⟩ := HA.out.facts
      have HR := Lib.hid hR
      have htt : (t != t) = false := by simp
      have hq0 : (0 : Int) < (q : Int) := by have := hR.low; rw [← HV7.out.len]; omega
      have hl0 : (0 : Int) < (l : Int) := by have := hR.low; rw [← HN7.out.len, hR.len]; omega
      clear hR
      go_wp2_with fail
      refine (allI_any c1 HV7.out (by omega) t true HR.out.a0).mono ?_
      rintro e w8 ⟨rfl, hb⟩
      have HB8 := Lib.hid (HB7.out.trans (hb.mono HB7.out.size))
      have HV8 := Lib.hid (HV7.out.below hb HV7.out.low)
      have HN8 := Lib.hid (HN7.out.below hb HN7.out.low)
      clear hb HB7 HV7 HN7
      go_wp2_with fail
      refine (allI_any c3 HN8.out (by omega) t true HR.out.a1).mono ?_
      rintro e w9 ⟨rfl, hb⟩
      have HB9 := Lib.hid (HB8.out.trans (hb.mono HB8.out.size))
      have HV9 := Lib.hid (HV8.out.below hb HV8.out.low)
      have HN9 := Lib.hid (HN8.out.below hb HN8.out.low)
      clear hb HB8 HV8 HN8
      obtain ⟨hb00, hb01⟩ := HR.out.b0
      obtain ⟨hb10, hb11⟩ := HR.out.b1
      have hdz := HR.out.dz
      have hlow := HR.out.low
      have hlen := HR.out.len
      obtain ⟨V1, hV1⟩ : ∃ V, vs.getD 0 noPool = V := ⟨_, rfl⟩
      obtain ⟨V2, hV2⟩ : ∃ V, L.getD 0 noPool = V := ⟨_, rfl⟩
      rw [hV1] at hb00 hb01 hdz
      rw [hV2] at hb10 hb11 hdz
      obtain ⟨a0, a1, a2⟩ := V1
      obtain ⟨b0, b1, b2⟩ := V2
      dsimp only at hb00 hb01 hb10 hb11 hdz
      have E1 := Lib.hid hV1
      have E2 := Lib.hid hV2
      clear HR hV1 hV2
      obtain ⟨a2, ea2, -, HVV⟩ := HV9.out.has.Pool (k := 0) (by rw [HV9.out.len]; omega)
      injection ea2 with ea2
      subst ea2
      rw [E1.out] at HVV
      have r2 : w9.cell? ⟨g1, 2, none⟩ = some (.int .i64 a2) := by simpa [addO] using HVV.c2
      have r3 : w9.cell? ⟨g1, 0 + 2, none⟩ = some (.int .i64 a2) := by simpa using r2
      clear HVV
      obtain ⟨a2, ea2, -, HVV⟩ := HN9.out.has.Pool (k := 0) (by rw [HN9.out.len]; omega)
      injection ea2 with ea2
      subst ea2
      rw [E2.out] at HVV
      have s2 : w9.cell? ⟨g3, 2, none⟩ = some (.int .i64 b2) := by simpa [addO] using HVV.c2
      have s3 : w9.cell? ⟨g3, 0 + 2, none⟩ = some (.int .i64 b2) := by simpa using s2
      clear HVV
      have R2 := fun (d : Nat) (os : Array Obj) => cell_regrown r2 d os
      have R3 := fun (d : Nat) (os : Array Obj) => cell_regrown r3 d os
      have S2 := fun (d : Nat) (os : Array Obj) => cell_regrown s2 d os
      have S3 := fun (d : Nat) (os : Array Obj) => cell_regrown s3 d os
      have hdf : (a2 - b2 != z) = false := by simp; omega
      clear r2 r3 s2 s3 E1 E2 hlow hlen HN9 HL
      go_wp2_with fail
      refine wp_region_quiet_below (by kernel_rfl) (by kernel_rfl) ?_
      repeat (go_big_quiet_step (first | fail))
      refine wpQuiet_nil ?_
      intro _ hw'
      obtain ⟨⟨dq, osq⟩, hw''⟩ := hw'
      subst hw''
      have HB10 := Lib.hid (HB9.out.trans ((below_regrown w9 dq osq).mono HB9.out.size))
      have HV10 := Lib.hid (HV9.out.all.below (below_regrown w9 dq osq) (Nat.le_refl _)).all
      clear R2 R3 S2 S3 HV9 HB9 hdf hdz hb00 hb01 hb10 hb11
      dsimp only
      generalize Go.Sort.grow (redrawn w9 dq) osq = w10 at HB10 HV10 ⊢
      obtain ⟨Bs, mo, x4, hA4⟩ := besA_ex vs
      obtain ⟨l4, hl4⟩ : ∃ k, Bs.length = k := ⟨_, rfl⟩
      have HL4 := Lib.hid hl4
      have hl44 : l4 ≤ 4 := by rw [← hl4]; exact hA4.len
      have HA4 := Lib.hid hA4
      have hmm4 : (mo != mo) = false := by simp
      have hx4 : (x4 != x4) = false := by simp
      clear hA4 hl4
      go_wp2_with fail
      refine (bestI_any c1 HV10.out (by omega) Bs mo x4 HA4.out l4 HL4.out).mono ?_
      rintro e w40 ⟨g6, c6, rfl, ho, hb⟩
      have HB40 := Lib.hid (HB10.out.trans (hb.mono HB10.out.size))
      have HV40 := Lib.hid (HV10.out.below hb HV10.out.low)
      have hlc6 := own_capP ho
      have HI40 := Lib.hid (own_IsIs ho)
      clear hb ho HB10 HV10
      go_wp2_with fail
      refine (bestS_any c1 HV40.out (by omega) Bs mo x4 HA4.out l4 HL4.out).mono ?_
      rintro e w41 ⟨g7, c7, rfl, ho, hb⟩
      have HB41 := Lib.hid (HB40.out.trans (hb.mono HB40.out.size))
      have HV41 := Lib.hid (HV40.out.below hb HV40.out.low)
      have HI41 := Lib.hid (HI40.out.below hb HI40.out.low)
      have HS41 := Lib.hid (own_IsIs ho)
      clear hb ho HB40 HV40 HI40
      go_wp2_with fail
      refine (rInts_same _ _ l4 c6 c7 _ _ Bs _ HL4.out (by unfold maxLen; omega) HI41.out.has HS41.out.has).mono ?_
      rintro e w42 ⟨rfl, hd⟩
      have hb := (hd.below w41.heap.size)
      have HB42 := Lib.hid (HB41.out.trans (hb.mono HB41.out.size))
      have HV42 := Lib.hid (HV41.out.below hb HV41.out.low)
      have HI42 := Lib.hid (HI41.out.below hb HI41.out.low)
      clear hb hd HB41 HV41 HI41 HS41
      cases x4 with
      | false =>
        clear HV42 HI42 HA4 HL4
        have D3 := Lib.hid (drawSh_any c (HC.out.on HB42.out))
        go_wp2_with fail
        refine D3.out.mono ?_
        rintro e w60 ⟨g8, c8, q8, us, g9, c9, m9, ps, rfl, hq8, hqc8, hm9, hmc9, hU, hP, hb⟩
        have HB60 := Lib.hid (HB42.out.trans (hb.mono HB42.out.size))
        have HU := Lib.hid hU
        have HP := Lib.hid hP
        obtain ⟨p5, r5, x5, hA5⟩ := shrA_ex us ps
        have HA5 := Lib.hid hA5
        have hp5 : (p5 != p5) = false := by simp
        have hr5 : (r5 != r5) = false := by simp
        have hx5 : (x5 != x5) = false := by simp
        clear D3 hU hP hb hA5 HB42
        go_wp2_with fail
        refine (shareI_any c8 c9 HU.out (by omega) HP.out (by omega) hmc9 p5 r5 x5 HA5.out).mono ?_
        rintro e w61 ⟨rfl, hb⟩
        have HB61 := Lib.hid (HB60.out.trans (hb.mono HB60.out.size))
        have HU1 := Lib.hid (HU.out.below hb HU.out.low)
        have HP1 := Lib.hid (HP.out.below hb HP.out.low)
        clear hb HB60 HU HP
        go_wp2_with fail
        refine (shareS_any c8 c9 HU1.out (by omega) HP1.out (by omega) hmc9 p5 r5 x5 HA5.out).mono ?_
        rintro e w62 ⟨rfl, hb⟩
        have HB62 := Lib.hid (HB61.out.trans (hb.mono HB61.out.size))
        have HU2 := Lib.hid (HU1.out.below hb HU1.out.low)
        have HP2 := Lib.hid (HP1.out.below hb HP1.out.low)
        clear hb HB61 HU1 HP1
        cases x5 with
        | false =>
          clear HU2 HP2 HA5
          go_wp2_with fail
          go_ret
          exact ⟨rfl, HB62.out⟩
        | true =>
          obtain ⟨L5, z5, hR5, hl5, hlo, heq5, hm50, hm51⟩ := HA5.out.same
          have HR5 := Lib.hid hR5
          have hq0 : (0 : Int) < (q8 : Int) := by rw [← HU2.out.len]; omega
          obtain ⟨U5, hU5⟩ : ∃ U, us.getD 0 noPool = U := ⟨_, rfl⟩
          rw [hU5] at heq5 hm50 hm51
          have HE5 := Lib.hid hU5
          obtain ⟨u0, u1, u2⟩ := U5
          dsimp only at heq5 hm50 hm51
          have hzz0 : 0 ≤ z5 * r5 := by omega
          have hzz1 : z5 * r5 ≤ 40000000000 := by omega
          have hfin : (p5 * u2 == z5 * r5) = true := by rw [heq5]; simp
          clear HA5 hR5 hU5
          go_wp2_with fail
          refine (drainI_any c8 c9 HU2.out (by omega) HP2.out (by omega) hmc9 L5 z5 true HR5.out L5.length rfl).mono ?_
          rintro e w63 ⟨g10, c10, rfl, ho, hb⟩
          have HB63 := Lib.hid (HB62.out.trans (hb.mono HB62.out.size))
          have HU3 := Lib.hid (HU2.out.below hb HU2.out.low)
          clear hb ho HB62 HU2 HP2 HR5
          obtain ⟨a2, ea2, -, HVV⟩ := HU3.out.has.Pool (k := 0) (by rw [HU3.out.len]; omega)
          injection ea2 with ea2
          subst ea2
          rw [HE5.out] at HVV
          have y2 : w63.cell? ⟨g8, 2, none⟩ = some (.int .i64 u2) := by simpa [addO] using HVV.c2
          have y3 : w63.cell? ⟨g8, 0 + 2, none⟩ = some (.int .i64 u2) := by simpa using y2
          clear HVV
          clear HU3 HE5 heq5 hlo hl5
          go_wp2_with fail
          go_ret
          exact ⟨rfl, HB63.out⟩
      | true =>
        obtain ⟨⟨L4, hR4, hl45⟩, hbest⟩ := HA4.out.facts
        have HR4 := Lib.hid hR4
        have HBE := Lib.hid hbest
        clear hR4 hbest HA4
        go_wp2_with fail
        refine (drainI_any c1 c6 HV42.out (by omega) HI42.out (by omega) hlc6 L4 mo true HR4.out L4.length rfl).mono ?_
        rintro e w43 ⟨g10, c10, rfl, ho, hb⟩
        have HB43 := Lib.hid (HB42.out.trans (hb.mono HB42.out.size))
        clear hb ho HB42 HI42 HR4 HL4
        by_cases hmq : (m : Int) = (q : Int) - 1
        · have hzm : z ≤ mo := HBE.out os L z HA.out (by have h1 := HOL.out; have h2 := HV42.out.len; omega)
          clear HBE HV42 HA
          go_wp2_with fail
          clear hzm hmq
          have D3 := Lib.hid (drawSh_any c (HC.out.on HB43.out))
          go_wp2_with fail
          refine D3.out.mono ?_
          rintro e w60 ⟨g8, c8, q8, us, g9, c9, m9, ps, rfl, hq8, hqc8, hm9, hmc9, hU, hP, hb⟩
          have HB60 := Lib.hid (HB43.out.trans (hb.mono HB43.out.size))
          have HU := Lib.hid hU
          have HP := Lib.hid hP
          obtain ⟨p5, r5, x5, hA5⟩ := shrA_ex us ps
          have HA5 := Lib.hid hA5
          have hp5 : (p5 != p5) = false := by simp
          have hr5 : (r5 != r5) = false := by simp
          have hx5 : (x5 != x5) = false := by simp
          clear D3 hU hP hb hA5 HB43
          go_wp2_with fail
          refine (shareI_any c8 c9 HU.out (by omega) HP.out (by omega) hmc9 p5 r5 x5 HA5.out).mono ?_
          rintro e w61 ⟨rfl, hb⟩
          have HB61 := Lib.hid (HB60.out.trans (hb.mono HB60.out.size))
          have HU1 := Lib.hid (HU.out.below hb HU.out.low)
          have HP1 := Lib.hid (HP.out.below hb HP.out.low)
          clear hb HB60 HU HP
          go_wp2_with fail
          refine (shareS_any c8 c9 HU1.out (by omega) HP1.out (by omega) hmc9 p5 r5 x5 HA5.out).mono ?_
          rintro e w62 ⟨rfl, hb⟩
          have HB62 := Lib.hid (HB61.out.trans (hb.mono HB61.out.size))
          have HU2 := Lib.hid (HU1.out.below hb HU1.out.low)
          have HP2 := Lib.hid (HP1.out.below hb HP1.out.low)
          clear hb HB61 HU1 HP1
          cases x5 with
          | false =>
            clear HU2 HP2 HA5
            go_wp2_with fail
            go_ret
            exact ⟨rfl, HB62.out⟩
          | true =>
            obtain ⟨L5, z5, hR5, hl5, hlo, heq5, hm50, hm51⟩ := HA5.out.same
            have HR5 := Lib.hid hR5
            have hq0 : (0 : Int) < (q8 : Int) := by rw [← HU2.out.len]; omega
            obtain ⟨U5, hU5⟩ : ∃ U, us.getD 0 noPool = U := ⟨_, rfl⟩
            rw [hU5] at heq5 hm50 hm51
            have HE5 := Lib.hid hU5
            obtain ⟨u0, u1, u2⟩ := U5
            dsimp only at heq5 hm50 hm51
            have hzz0 : 0 ≤ z5 * r5 := by omega
            have hzz1 : z5 * r5 ≤ 40000000000 := by omega
            have hfin : (p5 * u2 == z5 * r5) = true := by rw [heq5]; simp
            clear HA5 hR5 hU5
            go_wp2_with fail
            refine (drainI_any c8 c9 HU2.out (by omega) HP2.out (by omega) hmc9 L5 z5 true HR5.out L5.length rfl).mono ?_
            rintro e w63 ⟨g10, c10, rfl, ho, hb⟩
            have HB63 := Lib.hid (HB62.out.trans (hb.mono HB62.out.size))
            have HU3 := Lib.hid (HU2.out.below hb HU2.out.low)
            clear hb ho HB62 HU2 HP2 HR5
            obtain ⟨a2, ea2, -, HVV⟩ := HU3.out.has.Pool (k := 0) (by rw [HU3.out.len]; omega)
            injection ea2 with ea2
            subst ea2
            rw [HE5.out] at HVV
            have y2 : w63.cell? ⟨g8, 2, none⟩ = some (.int .i64 u2) := by simpa [addO] using HVV.c2
            have y3 : w63.cell? ⟨g8, 0 + 2, none⟩ = some (.int .i64 u2) := by simpa using y2
            clear HVV
            clear HU3 HE5 heq5 hlo hl5
            go_wp2_with fail
            go_ret
            exact ⟨rfl, HB63.out⟩
        · clear HBE HV42 HA
          go_wp2_with fail
          clear hmq
          have D3 := Lib.hid (drawSh_any c (HC.out.on HB43.out))
          go_wp2_with fail
          refine D3.out.mono ?_
          rintro e w60 ⟨g8, c8, q8, us, g9, c9, m9, ps, rfl, hq8, hqc8, hm9, hmc9, hU, hP, hb⟩
          have HB60 := Lib.hid (HB43.out.trans (hb.mono HB43.out.size))
          have HU := Lib.hid hU
          have HP := Lib.hid hP
          obtain ⟨p5, r5, x5, hA5⟩ := shrA_ex us ps
          have HA5 := Lib.hid hA5
          have hp5 : (p5 != p5) = false := by simp
          have hr5 : (r5 != r5) = false := by simp
          have hx5 : (x5 != x5) = false := by simp
          clear D3 hU hP hb hA5 HB43
          go_wp2_with fail
          refine (shareI_any c8 c9 HU.out (by omega) HP.out (by omega) hmc9 p5 r5 x5 HA5.out).mono ?_
          rintro e w61 ⟨rfl, hb⟩
          have HB61 := Lib.hid (HB60.out.trans (hb.mono HB60.out.size))
          have HU1 := Lib.hid (HU.out.below hb HU.out.low)
          have HP1 := Lib.hid (HP.out.below hb HP.out.low)
          clear hb HB60 HU HP
          go_wp2_with fail
          refine (shareS_any c8 c9 HU1.out (by omega) HP1.out (by omega) hmc9 p5 r5 x5 HA5.out).mono ?_
          rintro e w62 ⟨rfl, hb⟩
          have HB62 := Lib.hid (HB61.out.trans (hb.mono HB61.out.size))
          have HU2 := Lib.hid (HU1.out.below hb HU1.out.low)
          have HP2 := Lib.hid (HP1.out.below hb HP1.out.low)
          clear hb HB61 HU1 HP1
          cases x5 with
          | false =>
            clear HU2 HP2 HA5
            go_wp2_with fail
            go_ret
            exact ⟨rfl, HB62.out⟩
          | true =>
            obtain ⟨L5, z5, hR5, hl5, hlo, heq5, hm50, hm51⟩ := HA5.out.same
            have HR5 := Lib.hid hR5
            have hq0 : (0 : Int) < (q8 : Int) := by rw [← HU2.out.len]; omega
            obtain ⟨U5, hU5⟩ : ∃ U, us.getD 0 noPool = U := ⟨_, rfl⟩
            rw [hU5] at heq5 hm50 hm51
            have HE5 := Lib.hid hU5
            obtain ⟨u0, u1, u2⟩ := U5
            dsimp only at heq5 hm50 hm51
            have hzz0 : 0 ≤ z5 * r5 := by omega
            have hzz1 : z5 * r5 ≤ 40000000000 := by omega
            have hfin : (p5 * u2 == z5 * r5) = true := by rw [heq5]; simp
            clear HA5 hR5 hU5
            go_wp2_with fail
            refine (drainI_any c8 c9 HU2.out (by omega) HP2.out (by omega) hmc9 L5 z5 true HR5.out L5.length rfl).mono ?_
            rintro e w63 ⟨g10, c10, rfl, ho, hb⟩
            have HB63 := Lib.hid (HB62.out.trans (hb.mono HB62.out.size))
            have HU3 := Lib.hid (HU2.out.below hb HU2.out.low)
            clear hb ho HB62 HU2 HP2 HR5
            obtain ⟨a2, ea2, -, HVV⟩ := HU3.out.has.Pool (k := 0) (by rw [HU3.out.len]; omega)
            injection ea2 with ea2
            subst ea2
            rw [HE5.out] at HVV
            have y2 : w63.cell? ⟨g8, 2, none⟩ = some (.int .i64 u2) := by simpa [addO] using HVV.c2
            have y3 : w63.cell? ⟨g8, 0 + 2, none⟩ = some (.int .i64 u2) := by simpa using y2
            clear HVV
            clear HU3 HE5 heq5 hlo hl5
            go_wp2_with fail
            go_ret
            exact ⟨rfl, HB63.out⟩
theorem own : ownKnob Try.prog.godebug = none := by kernel_rfl
theorem laidOut : laidOutB Try.prog = true := by kernel_rfl

set_option maxRecDepth 100000 in
theorem lifted (os : Os) (started : os.Started) (H : Type) (enc : TypeId × Value → H) :
    ReturnsInHanded {} Try.checked os 4 .any (Rows.fnSavingSpec.pre6 enc Try.prog Try.f4 Rows.fnSavingRow.domain false) (Rows.fnSavingSpec.post enc Try.prog Try.f4 false true false false) := by
  refine returnsInHanded_of_change (C := Try.checked) own started (by kernel_rfl) Try.func4
    (ChangeSpec.witness6 (enc := enc) (C := Try.checked) false ⟨#[], #[.slice none 0 0], []⟩ 8 (by kernel_rfl) (by kernel_rfl) (by kernel_rfl) (by kernel_rfl)) ?_
  intro W base args ds gs before hval0 hW hcnd _
  have hval : ∀ (j : Nat) t v, Try.f4.params[j]? = some t → args[j]? = some v → Value.okWide Try.prog W .any base t v := hval0
  have hW' := hW
  obtain ⟨p, q, hA0, hV, rfl, hfz, hnd⟩ := hW
  have hA : DataW.TrodAll enc Try.prog W 0 (fun _ => true) true Try.f4.params.toList args.toList ds p := hA0
  rw [Try.params4] at hA hval
  obtain ⟨v0, vs0, d0, ds0, p0, q0, hargs, rfl, rfl, h0, r0⟩ := trodAll_cons hA
  obtain ⟨rfl, rfl, rfl⟩ := trodAll_nil r0
  obtain rfl : args = #[v0] := by cases args; simp_all
  obtain ⟨rfl, rfl⟩ := trodVars_none hV
  obtain ⟨a0, len0, cap0, rfl⟩ := okWide_slice Try.underlying22 (hval 0 22 v0 rfl rfl)
  have k0 := h0
  have lt0 : ∀ x ∈ p0, x.block < W.heap.size := by obtain ⟨m, hm⟩ := k0; exact DataW.trod_lt m _ _ _ hm
  obtain ⟨z0, w0⟩ : ∃ zs, IsInts .u8 W a0 len0 zs := by
    obtain ⟨fuel, hf⟩ := h0
    rcases open_ints Try.underlying22 Try.underlying5 (by kernel_rfl) hf with ⟨hcs, _⟩ | ⟨x, l, c, zs, hcs, _, hl, hm, hz, _, hcell, hwz⟩
    · simp [Value.cells] at hcs
      obtain ⟨rfl, rfl, rfl⟩ := hcs
      exact ⟨[], isInts_nil _ W⟩
    · simp [Value.cells] at hcs
      obtain ⟨rfl, rfl, rfl⟩ := hcs
      exact ⟨_, isInts_some hl hm (by simpa using hz) hcell hwz⟩
  clear hA0 hval0
  refine (walk a0 len0 cap0 z0 W w0).mono fun e W' ⟨he, bel⟩ => ?_
  subst he
  exact ⟨_, rfl, _, _, _, [], _, [], hW', trodAll_mk1 (shut_bool Try.underlying4 _), (trodAll_cons_mk (Below.trod laidOut (by kernel_rfl) (of_decide_eq_true (by kernel_rfl)) k0 bel lt0) trodAll_mk0), rfl, bel.frame _, fun h => by cases h⟩

theorem over : Rows.fnSavingRow.holds Try.pinned (OpenSpec.ofChange Rows.fnSavingSpec) :=
  OpenClaim.holds_of_wide 4 Try.f4 rfl rfl rfl rfl rfl rfl rfl ⟨rfl, rfl, rfl, rfl, rfl⟩ rfl rfl rfl rfl rfl (by kernel_rfl) Try.func4 (by kernel_rfl)
    (of_decide_eq_true (by kernel_rfl)) (by unfold Func.isWrapper; first | (rw [if_pos (by decide +kernel)]; kernel_rfl) | (rw [if_neg (by decide +kernel)]; exact ⟨rfl, rfl⟩))
    (fun os started H enc _ => lifted os started H enc)

/-- The statement. -/
theorem proved : Rows.FnSavingSaid := over
end Go.Proofs.Ytgnopkemcgbedaa.fnSaving
