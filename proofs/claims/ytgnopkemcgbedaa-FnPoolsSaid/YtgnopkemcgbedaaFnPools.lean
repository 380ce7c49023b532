/- FnPools holds: flowing keeps all water, no more flows than there is, flowing a second time does nothing, and the level is the fraction that is told; at every list of bytes. -/
import Derived.Test.YtgnopkemcgbedaaPpD
import Derived.Test.YtgnopkemcgbedaaPoF
import Derived.Test.YtgnopkemcgbedaaPoJ
import Derived.Test.YtgnopkemcgbedaaSeBig
import Derived.Test.YtgnopkemcgbedaaSt0
import Derived.OpenShut
import Derived.ShutString
import Derived.ChangeOld
import Derived.WalkLawsBesides
import Derived.Lib.SmallJoins
import Derived.Deep.RegionHeld3
namespace Go.Proofs.Ytgnopkemcgbedaa.fnPools
open Go.ChangeShapes Go.WideShapes Go.ChangeAt Go.RowKit
open Go.ChangeMaps (open_string shut_string)
set_option linter.unusedVariables false
set_option linter.unusedSimpArgs false

set_option maxRecDepth 100000 in
set_option maxHeartbeats 16000000 in
theorem walk (A : Option Addr) (n c : Nat) (zs : List Int) (w : World) (hI : IsInts .u8 w A n zs) :
    Calls Try.prog 3 #[.slice A n c] w fun e w' => e = .returned (.bool true) ∧ Below w.heap.size w w' := by
  by_cases hbig : 65536 < n
  · have CB := Lib.hid (rBig_any A n c w hI.2.1)
    rw [decide_eq_true (show (65536 : Int) < (n : Int) by omega)] at CB
    clear hI
    go_enter Try.func3, Try.ntmps3
    go_wp2_with fail
    refine CB.out.mono ?_
    rintro e w1 ⟨rfl, rfl⟩
    go_wp2_with fail
    go_ret
    exact ⟨rfl, Below.refl _ _⟩
  · have CB := Lib.hid (rBig_any A n c w hI.2.1)
    rw [decide_eq_false (show ¬ (65536 : Int) < (n : Int) by omega)] at CB
    have HC := Lib.hid (Code_.of hI (by omega))
    have D1 := Lib.hid (drawLF_any c HC.out)
    clear hI hbig
    go_enter Try.func3, Try.ntmps3
    go_wp2_with fail
    refine CB.out.mono ?_
    rintro e w1 ⟨rfl, rfl⟩
    clear CB
    go_wp2_with fail
    refine D1.out.mono ?_
    rintro e w1 ⟨g1, c1, q, vs, i, j, rfl, hq, hqc, hV, hb⟩
    have HB1 := Lib.hid hb
    have HV1 := Lib.hid hV
    obtain ⟨L, z, x, hA⟩ := letA_ex vs i j
    obtain ⟨l, hl⟩ : ∃ k, L.length = k := ⟨_, rfl⟩
    have HL := Lib.hid hl
    have hl6 : l ≤ 5 := by rw [← hl]; exact hA.len
    have HA := Lib.hid hA
    have hzz : (z != z) = false := by simp
    have hxx : (x != x) = false := by simp
    obtain ⟨gv, hgv⟩ : ∃ gv, gPs vs = gv := ⟨_, rfl⟩
    have HGV := Lib.hid hgv
    have hgg : (gv != gv) = false := by simp
    clear D1 hV hb hA hl hgv
    go_wp2_with fail
    refine (letI_any c1 HV1.out (by omega) i j L z x HA.out l HL.out).mono ?_
    rintro e w2 ⟨g3, c3, rfl, ho, hb⟩
    have HB2 := Lib.hid (HB1.out.trans (hb.mono HB1.out.size))
    have HV2 := Lib.hid (HV1.out.below hb HV1.out.low)
    have HO2 := Lib.hid (own_Pools ho)
    clear hb ho HB1 HV1
    go_wp2_with fail
    refine (letS_any c1 HV2.out (by omega) i j L z x HA.out l HL.out).mono ?_
    rintro e w3 ⟨g4, c4, rfl, ho, hb⟩
    have HB3 := Lib.hid (HB2.out.trans (hb.mono HB2.out.size))
    have HV3 := Lib.hid (HV2.out.below hb HV2.out.low)
    have HO3 := Lib.hid (HO2.out.below hb HO2.out.low)
    have HW3 := Lib.hid (own_Pools ho)
    clear hb ho HB2 HV2 HO2
    go_wp2_with fail
    refine (rPools_same c3 c4 HO3.out HW3.out (by omega)).mono ?_
    rintro e w4 ⟨rfl, hb⟩
    have HB4 := Lib.hid (HB3.out.trans (hb.mono HB3.out.size))
    have HV4 := Lib.hid (HV3.out.below hb HV3.out.low)
    have HO4 := Lib.hid (HO3.out.below hb HO3.out.low)
    have CI := Lib.hid (arePools_any c1 HV4.out (by unfold maxLen; omega))
    rw [HGV.out] at CI
    clear hb HB3 HV3 HO3 HW3
    go_wp2_with fail
    refine CI.out.mono ?_
    rintro e w5 ⟨rfl, hb⟩
    have HB5 := Lib.hid (HB4.out.trans (hb.mono HB4.out.size))
    have HV5 := Lib.hid (HV4.out.below hb HV4.out.low)
    have HO5 := Lib.hid (HO4.out.below hb HO4.out.low)
    have CS := Lib.hid (arePoolsS_any c1 HV5.out (by unfold maxLen; omega))
    rw [HGV.out] at CS
    clear hb HB4 HV4 HO4 CI
    go_wp2_with fail
    refine CS.out.mono ?_
    rintro e w6 ⟨rfl, hb⟩
    have HB6 := Lib.hid (HB5.out.trans (hb.mono HB5.out.size))
    have HV6 := Lib.hid (HV5.out.below hb HV5.out.low)
    have HO6 := Lib.hid (HO5.out.below hb HO5.out.low)
    clear hb HB5 HV5 HO5 CS HGV
    cases x with
    | false =>
      clear HV6 HO6 HA
      have D2 := Lib.hid (drawFB_any c (HC.out.on HB6.out))
      go_wp2_with fail
      refine D2.out.mono ?_
      rintro e w20 ⟨a0, a1, a2, b0, b1, b2, rfl, hb⟩
      have HB20 := Lib.hid (HB6.out.trans (hb.mono HB6.out.size))
      have hb2 := below2 w20 (.cells #[.int .i64 a0, .int .i64 a1, .int .i64 a2] 35) (.cells #[.int .i64 b0, .int .i64 b1, .int .i64 b2] 35)
      have BA0 := Lib.hid ((BoxP.new w20 a0 a1 a2).all (below1 _ (.cells #[.int .i64 b0, .int .i64 b1, .int .i64 b2] 35)))
      have BB0 : Hid (BoxP ((w20.alloc (.cells #[.int .i64 a0, .int .i64 a1, .int .i64 a2] 35)).alloc (.cells #[.int .i64 b0, .int .i64 b1, .int .i64 b2] 35)) (w20.heap.size + 1) b0 b1 b2) := Lib.hid (World.size_alloc w20 (.cells #[.int .i64 a0, .int .i64 a1, .int .i64 a2] 35) ▸ BoxP.new _ b0 b1 b2)
      have HB21 := Lib.hid (HB20.out.trans (hb2.mono HB20.out.size))
      clear D2 hb hb2 HB20 HB6
      go_wp2_with fail
      obtain ⟨w21, hw21⟩ : ∃ W, ((w20.alloc (.cells #[.int .i64 a0, .int .i64 a1, .int .i64 a2] 35)).alloc (.cells #[.int .i64 b0, .int .i64 b1, .int .i64 b2] 35)) = W := ⟨_, rfl⟩
      obtain ⟨xf, hxf⟩ : ∃ x, w20.heap.size = x := ⟨_, rfl⟩
      rw [hw21] at BA0 BB0 HB21 ⊢
      rw [hxf] at BA0 BB0
      try simp only [hxf]
      clear hw21 hxf
      obtain ⟨z3, x3, hA3⟩ := floA_ex ⟨a0, a1, a2⟩ ⟨b0, b1, b2⟩
      have HA3 := Lib.hid hA3
      have hle := hA3.le
      dsimp only at hle
      have hz3 : (z3 != z3) = false := by simp
      have hx3 : (x3 != x3) = false := by simp
      have y0 := BA0.out.c0
      have y1 := BA0.out.c1
      have y2 := BA0.out.c2
      have u0 := BB0.out.c0
      have u1 := BB0.out.c1
      have u2 := BB0.out.c2
      clear hA3
      go_wp2_with fail
      refine (flowI_any a0 a1 a2 b0 b1 b2 _ z3 x3 HA3.out).mono ?_
      rintro e w22 ⟨rfl, hb⟩
      have HB22 := Lib.hid (HB21.out.trans (hb.mono HB21.out.size))
      have BA1 := Lib.hid (BA0.out.all hb)
      have BB1 := Lib.hid (BB0.out.all hb)
      clear hb HB21 BA0 BB0 y0 y1 y2 u0 u1 u2
      have y0 := BA1.out.c0
      have y1 := BA1.out.c1
      have y2 := BA1.out.c2
      have u0 := BB1.out.c0
      have u1 := BB1.out.c1
      have u2 := BB1.out.c2
      go_wp2_with fail
      refine (flowS_any a0 a1 a2 b0 b1 b2 _ z3 x3 HA3.out).mono ?_
      rintro e w23 ⟨rfl, hb⟩
      have HB23 := Lib.hid (HB22.out.trans (hb.mono HB22.out.size))
      have BA2 := Lib.hid (BA1.out.all hb)
      clear hb HB22 BA1 BB1 y0 y1 y2 u0 u1 u2 HA3
      have y2 := BA2.out.c2
      cases x3 with
      | false =>
        clear hle
        by_cases hc : a2 < z3
        · go_wp2_with fail
          clear y2 BA2 hc
          have D3 := Lib.hid (drawLv_any c (HC.out.on HB23.out))
          go_wp2_with fail
          refine D3.out.mono ?_
          rintro e w40 ⟨f0, f1, f2, rfl, hb⟩
          have HB40 := Lib.hid (HB23.out.trans (hb.mono HB23.out.size))
          have hb2 := below1 w40 (.cells #[.int .i64 f0, .int .i64 f1, .int .i64 f2] 35)
          have BX0 := Lib.hid (BoxP.new w40 f0 f1 f2)
          have HB41 := Lib.hid (HB40.out.trans (hb2.mono HB40.out.size))
          clear D3 hb hb2 HB40 HB23
          go_wp2_with fail
          obtain ⟨w41, hw41⟩ : ∃ W, (w40.alloc (.cells #[.int .i64 f0, .int .i64 f1, .int .i64 f2] 35)) = W := ⟨_, rfl⟩
          obtain ⟨xf, hxf⟩ : ∃ x, w40.heap.size = x := ⟨_, rfl⟩
          rw [hw41] at BX0 HB41 ⊢
          rw [hxf] at BX0
          try simp only [hxf]
          clear hw41 hxf
          obtain ⟨p4, q4, x4, hA4⟩ := lvlA_ex ⟨f0, f1, f2⟩
          have HA4 := Lib.hid hA4
          have hp4 : (p4 != p4) = false := by simp
          have hq4 : (q4 != q4) = false := by simp
          have hx4 : (x4 != x4) = false := by simp
          have y0 := BX0.out.c0
          have y1 := BX0.out.c1
          have y2 := BX0.out.c2
          clear hA4
          go_wp2_with fail
          refine (levelI_any f0 f1 f2 _ p4 q4 x4 HA4.out).mono ?_
          rintro e w42 ⟨rfl, hb⟩
          have HB42 := Lib.hid (HB41.out.trans (hb.mono HB41.out.size))
          have BX1 := Lib.hid (BX0.out.all hb)
          clear hb HB41 BX0 y0 y1 y2
          have y0 := BX1.out.c0
          have y1 := BX1.out.c1
          have y2 := BX1.out.c2
          go_wp2_with fail
          refine (levelS_any f0 f1 f2 _ p4 q4 x4 HA4.out).mono ?_
          rintro e w43 ⟨rfl, hb⟩
          have HB43 := Lib.hid (HB42.out.trans (hb.mono HB42.out.size))
          have BX2 := Lib.hid (BX1.out.all hb)
          clear hb HB42 BX1 y0 y1 y2
          have y0 := BX2.out.c0
          have y1 := BX2.out.c1
          have y2 := BX2.out.c2
          have C5 := Lib.hid (isPool_any f0 f1 f2 w43)
          rw [HA4.out.told] at C5
          go_wp2_with fail
          refine C5.out.mono ?_
          rintro e w44 ⟨rfl, hb⟩
          have HB44 := Lib.hid (HB43.out.trans (hb.mono HB43.out.size))
          have BX3 := Lib.hid (BX2.out.all hb)
          clear hb C5 HB43 BX2 y0 y1 y2
          have y0 := BX3.out.c0
          have y1 := BX3.out.c1
          have y2 := BX3.out.c2
          cases x4 with
          | false =>
            clear HA4
            go_wp2_with fail
            clear y0 y1 y2 BX3
            have D4 := Lib.hid (drawQ_any c (HC.out.on HB44.out))
            go_wp2_with fail
            refine D4.out.mono ?_
            rintro e w60 ⟨g8, c8, q8, us, rfl, hq8, hqc8, hU, hb⟩
            have HB60 := Lib.hid (HB44.out.trans (hb.mono HB44.out.size))
            have HU := Lib.hid hU
            obtain ⟨z5, x5, hA5⟩ := allA_ex us
            have HA5 := Lib.hid hA5
            have hz5 : (z5 == z5) = true := by simp
            have hx5 : (x5 == x5) = true := by simp
            clear D4 hU hb hA5 HB44
            go_wp2_with fail
            refine (allI_any c8 HU.out (by omega) z5 x5 HA5.out).mono ?_
            rintro e w61 ⟨rfl, hb⟩
            have HB61 := Lib.hid (HB60.out.trans (hb.mono HB60.out.size))
            have HU1 := Lib.hid (HU.out.below hb HU.out.low)
            clear hb HB60 HU
            go_wp2_with fail
            refine (allS_any c8 HU1.out (by omega) z5 x5 HA5.out).mono ?_
            rintro e w62 ⟨rfl, hb⟩
            have HB62 := Lib.hid (HB61.out.trans (hb.mono HB61.out.size))
            clear hb HB61 HU1 HA5
            go_wp2_with fail
            go_ret
            exact ⟨rfl, HB62.out⟩
          | true =>
            obtain ⟨h1, h2, h3, h4⟩ := HA4.out.same
            dsimp only at h1 h2 h3 h4
            clear HA4
            go_wp2_with fail
            clear y0 y1 y2 BX3 h1 h2 h3 h4
            have D4 := Lib.hid (drawQ_any c (HC.out.on HB44.out))
            go_wp2_with fail
            refine D4.out.mono ?_
            rintro e w60 ⟨g8, c8, q8, us, rfl, hq8, hqc8, hU, hb⟩
            have HB60 := Lib.hid (HB44.out.trans (hb.mono HB44.out.size))
            have HU := Lib.hid hU
            obtain ⟨z5, x5, hA5⟩ := allA_ex us
            have HA5 := Lib.hid hA5
            have hz5 : (z5 == z5) = true := by simp
            have hx5 : (x5 == x5) = true := by simp
            clear D4 hU hb hA5 HB44
            go_wp2_with fail
            refine (allI_any c8 HU.out (by omega) z5 x5 HA5.out).mono ?_
            rintro e w61 ⟨rfl, hb⟩
            have HB61 := Lib.hid (HB60.out.trans (hb.mono HB60.out.size))
            have HU1 := Lib.hid (HU.out.below hb HU.out.low)
            clear hb HB60 HU
            go_wp2_with fail
            refine (allS_any c8 HU1.out (by omega) z5 x5 HA5.out).mono ?_
            rintro e w62 ⟨rfl, hb⟩
            have HB62 := Lib.hid (HB61.out.trans (hb.mono HB61.out.size))
            clear hb HB61 HU1 HA5
            go_wp2_with fail
            go_ret
            exact ⟨rfl, HB62.out⟩
        · go_wp2_with fail
          clear y2 BA2 hc
          have D3 := Lib.hid (drawLv_any c (HC.out.on HB23.out))
          go_wp2_with fail
          refine D3.out.mono ?_
          rintro e w40 ⟨f0, f1, f2, rfl, hb⟩
          have HB40 := Lib.hid (HB23.out.trans (hb.mono HB23.out.size))
          have hb2 := below1 w40 (.cells #[.int .i64 f0, .int .i64 f1, .int .i64 f2] 35)
          have BX0 := Lib.hid (BoxP.new w40 f0 f1 f2)
          have HB41 := Lib.hid (HB40.out.trans (hb2.mono HB40.out.size))
          clear D3 hb hb2 HB40 HB23
          go_wp2_with fail
          obtain ⟨w41, hw41⟩ : ∃ W, (w40.alloc (.cells #[.int .i64 f0, .int .i64 f1, .int .i64 f2] 35)) = W := ⟨_, rfl⟩
          obtain ⟨xf, hxf⟩ : ∃ x, w40.heap.size = x := ⟨_, rfl⟩
          rw [hw41] at BX0 HB41 ⊢
          rw [hxf] at BX0
          try simp only [hxf]
          clear hw41 hxf
          obtain ⟨p4, q4, x4, hA4⟩ := lvlA_ex ⟨f0, f1, f2⟩
          have HA4 := Lib.hid hA4
          have hp4 : (p4 != p4) = false := by simp
          have hq4 : (q4 != q4) = false := by simp
          have hx4 : (x4 != x4) = false := by simp
          have y0 := BX0.out.c0
          have y1 := BX0.out.c1
          have y2 := BX0.out.c2
          clear hA4
          go_wp2_with fail
          refine (levelI_any f0 f1 f2 _ p4 q4 x4 HA4.out).mono ?_
          rintro e w42 ⟨rfl, hb⟩
          have HB42 := Lib.hid (HB41.out.trans (hb.mono HB41.out.size))
          have BX1 := Lib.hid (BX0.out.all hb)
          clear hb HB41 BX0 y0 y1 y2
          have y0 := BX1.out.c0
          have y1 := BX1.out.c1
          have y2 := BX1.out.c2
          go_wp2_with fail
          refine (levelS_any f0 f1 f2 _ p4 q4 x4 HA4.out).mono ?_
          rintro e w43 ⟨rfl, hb⟩
          have HB43 := Lib.hid (HB42.out.trans (hb.mono HB42.out.size))
          have BX2 := Lib.hid (BX1.out.all hb)
          clear hb HB42 BX1 y0 y1 y2
          have y0 := BX2.out.c0
          have y1 := BX2.out.c1
          have y2 := BX2.out.c2
          have C5 := Lib.hid (isPool_any f0 f1 f2 w43)
          rw [HA4.out.told] at C5
          go_wp2_with fail
          refine C5.out.mono ?_
          rintro e w44 ⟨rfl, hb⟩
          have HB44 := Lib.hid (HB43.out.trans (hb.mono HB43.out.size))
          have BX3 := Lib.hid (BX2.out.all hb)
          clear hb C5 HB43 BX2 y0 y1 y2
          have y0 := BX3.out.c0
          have y1 := BX3.out.c1
          have y2 := BX3.out.c2
          cases x4 with
          | false =>
            clear HA4
            go_wp2_with fail
            clear y0 y1 y2 BX3
            have D4 := Lib.hid (drawQ_any c (HC.out.on HB44.out))
            go_wp2_with fail
            refine D4.out.mono ?_
            rintro e w60 ⟨g8, c8, q8, us, rfl, hq8, hqc8, hU, hb⟩
            have HB60 := Lib.hid (HB44.out.trans (hb.mono HB44.out.size))
            have HU := Lib.hid hU
            obtain ⟨z5, x5, hA5⟩ := allA_ex us
            have HA5 := Lib.hid hA5
            have hz5 : (z5 == z5) = true := by simp
            have hx5 : (x5 == x5) = true := by simp
            clear D4 hU hb hA5 HB44
            go_wp2_with fail
            refine (allI_any c8 HU.out (by omega) z5 x5 HA5.out).mono ?_
            rintro e w61 ⟨rfl, hb⟩
            have HB61 := Lib.hid (HB60.out.trans (hb.mono HB60.out.size))
            have HU1 := Lib.hid (HU.out.below hb HU.out.low)
            clear hb HB60 HU
            go_wp2_with fail
            refine (allS_any c8 HU1.out (by omega) z5 x5 HA5.out).mono ?_
            rintro e w62 ⟨rfl, hb⟩
            have HB62 := Lib.hid (HB61.out.trans (hb.mono HB61.out.size))
            clear hb HB61 HU1 HA5
            go_wp2_with fail
            go_ret
            exact ⟨rfl, HB62.out⟩
          | true =>
            obtain ⟨h1, h2, h3, h4⟩ := HA4.out.same
            dsimp only at h1 h2 h3 h4
            clear HA4
            go_wp2_with fail
            clear y0 y1 y2 BX3 h1 h2 h3 h4
            have D4 := Lib.hid (drawQ_any c (HC.out.on HB44.out))
            go_wp2_with fail
            refine D4.out.mono ?_
            rintro e w60 ⟨g8, c8, q8, us, rfl, hq8, hqc8, hU, hb⟩
            have HB60 := Lib.hid (HB44.out.trans (hb.mono HB44.out.size))
            have HU := Lib.hid hU
            obtain ⟨z5, x5, hA5⟩ := allA_ex us
            have HA5 := Lib.hid hA5
            have hz5 : (z5 == z5) = true := by simp
            have hx5 : (x5 == x5) = true := by simp
            clear D4 hU hb hA5 HB44
            go_wp2_with fail
            refine (allI_any c8 HU.out (by omega) z5 x5 HA5.out).mono ?_
            rintro e w61 ⟨rfl, hb⟩
            have HB61 := Lib.hid (HB60.out.trans (hb.mono HB60.out.size))
            have HU1 := Lib.hid (HU.out.below hb HU.out.low)
            clear hb HB60 HU
            go_wp2_with fail
            refine (allS_any c8 HU1.out (by omega) z5 x5 HA5.out).mono ?_
            rintro e w62 ⟨rfl, hb⟩
            have HB62 := Lib.hid (HB61.out.trans (hb.mono HB61.out.size))
            clear hb HB61 HU1 HA5
            go_wp2_with fail
            go_ret
            exact ⟨rfl, HB62.out⟩
      | true =>
        obtain hle : z3 ≤ a2 := hle.resolve_left (by decide)
        go_wp2_with fail
        clear y2 BA2
        have D3 := Lib.hid (drawLv_any c (HC.out.on HB23.out))
        go_wp2_with fail
        refine D3.out.mono ?_
        rintro e w40 ⟨f0, f1, f2, rfl, hb⟩
        have HB40 := Lib.hid (HB23.out.trans (hb.mono HB23.out.size))
        have hb2 := below1 w40 (.cells #[.int .i64 f0, .int .i64 f1, .int .i64 f2] 35)
        have BX0 := Lib.hid (BoxP.new w40 f0 f1 f2)
        have HB41 := Lib.hid (HB40.out.trans (hb2.mono HB40.out.size))
        clear D3 hb hb2 HB40 HB23
        go_wp2_with fail
        obtain ⟨w41, hw41⟩ : ∃ W, (w40.alloc (.cells #[.int .i64 f0, .int .i64 f1, .int .i64 f2] 35)) = W := ⟨_, rfl⟩
        obtain ⟨xf, hxf⟩ : ∃ x, w40.heap.size = x := ⟨_, rfl⟩
        rw [hw41] at BX0 HB41 ⊢
        rw [hxf] at BX0
        try simp only [hxf]
        clear hw41 hxf
        obtain ⟨p4, q4, x4, hA4⟩ := lvlA_ex ⟨f0, f1, f2⟩
        have HA4 := Lib.hid hA4
        have hp4 : (p4 != p4) = false := by simp
        have hq4 : (q4 != q4) = false := by simp
        have hx4 : (x4 != x4) = false := by simp
        have y0 := BX0.out.c0
        have y1 := BX0.out.c1
        have y2 := BX0.out.c2
        clear hA4
        go_wp2_with fail
        refine (levelI_any f0 f1 f2 _ p4 q4 x4 HA4.out).mono ?_
        rintro e w42 ⟨rfl, hb⟩
        have HB42 := Lib.hid (HB41.out.trans (hb.mono HB41.out.size))
        have BX1 := Lib.hid (BX0.out.all hb)
        clear hb HB41 BX0 y0 y1 y2
        have y0 := BX1.out.c0
        have y1 := BX1.out.c1
        have y2 := BX1.out.c2
        go_wp2_with fail
        refine (levelS_any f0 f1 f2 _ p4 q4 x4 HA4.out).mono ?_
        rintro e w43 ⟨rfl, hb⟩
        have HB43 := Lib.hid (HB42.out.trans (hb.mono HB42.out.size))
        have BX2 := Lib.hid (BX1.out.all hb)
        clear hb HB42 BX1 y0 y1 y2
        have y0 := BX2.out.c0
        have y1 := BX2.out.c1
        have y2 := BX2.out.c2
        have C5 := Lib.hid (isPool_any f0 f1 f2 w43)
        rw [HA4.out.told] at C5
        go_wp2_with fail
        refine C5.out.mono ?_
        rintro e w44 ⟨rfl, hb⟩
        have HB44 := Lib.hid (HB43.out.trans (hb.mono HB43.out.size))
        have BX3 := Lib.hid (BX2.out.all hb)
        clear hb C5 HB43 BX2 y0 y1 y2
        have y0 := BX3.out.c0
        have y1 := BX3.out.c1
        have y2 := BX3.out.c2
        cases x4 with
        | false =>
          clear HA4
          go_wp2_with fail
          clear y0 y1 y2 BX3
          have D4 := Lib.hid (drawQ_any c (HC.out.on HB44.out))
          go_wp2_with fail
          refine D4.out.mono ?_
          rintro e w60 ⟨g8, c8, q8, us, rfl, hq8, hqc8, hU, hb⟩
          have HB60 := Lib.hid (HB44.out.trans (hb.mono HB44.out.size))
          have HU := Lib.hid hU
          obtain ⟨z5, x5, hA5⟩ := allA_ex us
          have HA5 := Lib.hid hA5
          have hz5 : (z5 == z5) = true := by simp
          have hx5 : (x5 == x5) = true := by simp
          clear D4 hU hb hA5 HB44
          go_wp2_with fail
          refine (allI_any c8 HU.out (by omega) z5 x5 HA5.out).mono ?_
          rintro e w61 ⟨rfl, hb⟩
          have HB61 := Lib.hid (HB60.out.trans (hb.mono HB60.out.size))
          have HU1 := Lib.hid (HU.out.below hb HU.out.low)
          clear hb HB60 HU
          go_wp2_with fail
          refine (allS_any c8 HU1.out (by omega) z5 x5 HA5.out).mono ?_
          rintro e w62 ⟨rfl, hb⟩
          have HB62 := Lib.hid (HB61.out.trans (hb.mono HB61.out.size))
          clear hb HB61 HU1 HA5
          go_wp2_with fail
          go_ret
          exact ⟨rfl, HB62.out⟩
        | true =>
          obtain ⟨h1, h2, h3, h4⟩ := HA4.out.same
          dsimp only at h1 h2 h3 h4
          clear HA4
          go_wp2_with fail
          clear y0 y1 y2 BX3 h1 h2 h3 h4
          have D4 := Lib.hid (drawQ_any c (HC.out.on HB44.out))
          go_wp2_with fail
          refine D4.out.mono ?_
          rintro e w60 ⟨g8, c8, q8, us, rfl, hq8, hqc8, hU, hb⟩
          have HB60 := Lib.hid (HB44.out.trans (hb.mono HB44.out.size))
          have HU := Lib.hid hU
          obtain ⟨z5, x5, hA5⟩ := allA_ex us
          have HA5 := Lib.hid hA5
          have hz5 : (z5 == z5) = true := by simp
          have hx5 : (x5 == x5) = true := by simp
          clear D4 hU hb hA5 HB44
          go_wp2_with fail
          refine (allI_any c8 HU.out (by omega) z5 x5 HA5.out).mono ?_
          rintro e w61 ⟨rfl, hb⟩
          have HB61 := Lib.hid (HB60.out.trans (hb.mono HB60.out.size))
          have HU1 := Lib.hid (HU.out.below hb HU.out.low)
          clear hb HB60 HU
          go_wp2_with fail
          refine (allS_any c8 HU1.out (by omega) z5 x5 HA5.out).mono ?_
          rintro e w62 ⟨rfl, hb⟩
          have HB62 := Lib.hid (HB61.out.trans (hb.mono HB61.out.size))
          clear hb HB61 HU1 HA5
          go_wp2_with fail
          go_ret
          exact ⟨rfl, HB62.out⟩
    | true =>
      obtain ⟨p, r, t, rfl, rfl, hR⟩ := HA.out.facts
      have HR := Lib.hid hR
      have hlq : l = q := by rw [← HL.out, hR.len, HV6.out.len]
      subst hlq
      have hpl : p < l := by rw [← HV6.out.len]; exact hR.hp
      have hrl : r < l := by rw [← HV6.out.len]; exact hR.hr
      have hp0 : (0 : Int) ≤ (p : Int) := by omega
      have hp1 : (p : Int) < (l : Int) := by omega
      have hr0 : (0 : Int) ≤ (r : Int) := by omega
      have hr1 : (r : Int) < (l : Int) := by omega
      clear hR HA
      go_wp2_with fail
      refine (allI_any c1 HV6.out (by omega) t true HR.out.a0).mono ?_
      rintro e w7 ⟨rfl, hb⟩
      have HB7 := Lib.hid (HB6.out.trans (hb.mono HB6.out.size))
      have HV7 := Lib.hid (HV6.out.below hb HV6.out.low)
      have HO7 := Lib.hid (HO6.out.below hb HO6.out.low)
      clear hb HB6 HV6 HO6
      go_wp2_with fail
      refine (allI_any c3 HO7.out (by omega) t true HR.out.a1).mono ?_
      rintro e w8 ⟨rfl, hb⟩
      have HB8 := Lib.hid (HB7.out.trans (hb.mono HB7.out.size))
      have HV8 := Lib.hid (HV7.out.below hb HV7.out.low)
      have HO8 := Lib.hid (HO7.out.below hb HO7.out.low)
      clear hb HB7 HV7 HO7
      have htt : (t != t) = false := by simp
      obtain ⟨y, hf2, hy⟩ := HR.out.f2
      have hf0 := HR.out.f0
      have hf1 := HR.out.f1
      obtain ⟨V1, hV1⟩ : ∃ V, vs.getD p noPool = V := ⟨_, rfl⟩
      obtain ⟨V2, hV2⟩ : ∃ V, vs.getD r noPool = V := ⟨_, rfl⟩
      obtain ⟨V3, hV3⟩ : ∃ V, L.getD p noPool = V := ⟨_, rfl⟩
      obtain ⟨V4, hV4⟩ : ∃ V, L.getD r noPool = V := ⟨_, rfl⟩
      rw [hV1, hV2] at hf0
      rw [hV3, hV4] at hf1
      rw [hV4, hV3] at hf2
      obtain ⟨a0, a1, a2⟩ := V1
      obtain ⟨b0, b1, b2⟩ := V2
      obtain ⟨m0, m1, m2⟩ := V3
      obtain ⟨n0, n1, n2⟩ := V4
      have F0 := Lib.hid hf0
      have F1 := Lib.hid hf1
      have F2 := Lib.hid hf2
      have E1 := Lib.hid hV1
      have E2 := Lib.hid hV2
      have E3 := Lib.hid hV3
      have E4 := Lib.hid hV4
      have GL := Lib.hid (gPs_yes HR.out.g1)
      clear HR hf0 hf1 hf2 hV1 hV2 hV3 hV4
      obtain ⟨a2, ea2, -, HVV⟩ := HV8.out.has.Pool (k := p) (by rw [HV8.out.len]; exact hpl)
      injection ea2 with ea2
      subst ea2
      rw [E1.out] at HVV
      have r0 := HVV.c0
      have r1 := HVV.c1
      have r2 := HVV.c2
      clear HVV
      dsimp only at r0 r1 r2
      simp only [addO, Nat.zero_add] at r0 r1 r2
      obtain ⟨a2, ea2, -, HVV⟩ := HV8.out.has.Pool (k := r) (by rw [HV8.out.len]; exact hrl)
      injection ea2 with ea2
      subst ea2
      rw [E2.out] at HVV
      have s0 := HVV.c0
      have s1 := HVV.c1
      have s2 := HVV.c2
      clear HVV
      dsimp only at s0 s1 s2
      simp only [addO, Nat.zero_add] at s0 s1 s2
      have R0 := fun (d : Nat) (os : Array Obj) => cell_regrown r0 d os
      have R1 := fun (d : Nat) (os : Array Obj) => cell_regrown r1 d os
      have R2 := fun (d : Nat) (os : Array Obj) => cell_regrown r2 d os
      have S0 := fun (d : Nat) (os : Array Obj) => cell_regrown s0 d os
      have S1 := fun (d : Nat) (os : Array Obj) => cell_regrown s1 d os
      have S2 := fun (d : Nat) (os : Array Obj) => cell_regrown s2 d os
      have k1 := fun (dr : Nat) (os : Array Obj) => Calls.regrown_of (w := w8) (d := dr) (os := os) (flowI_any a0 a1 a2 b0 b1 b2 _ z true F0.out)
      clear r0 r1 r2 s0 s1 s2
      go_wp2_with fail
      refine wp_region_quiet_below (by kernel_rfl) (by kernel_rfl) ?_
      repeat (go_big_quiet_step (first | exact k1 _ _))
      refine wpQuiet_nil ?_
      intro _ hw'
      obtain ⟨⟨dq, osq⟩, hw''⟩ := hw'
      subst hw''
      have HB9 := Lib.hid (HB8.out.trans ((below_regrown w8 dq osq).mono HB8.out.size))
      have HV9 := Lib.hid (HV8.out.all.below (below_regrown w8 dq osq) (Nat.le_refl _)).all
      have HO9 := Lib.hid (HO8.out.all.below (below_regrown w8 dq osq) (Nat.le_refl _)).all
      clear R0 R1 R2 S0 S1 S2 k1 HV8 HO8 HB8 F0 E1 E2
      dsimp only
      generalize Go.Sort.grow (redrawn w8 dq) osq = w9 at HB9 HV9 HO9 ⊢
      obtain ⟨a2, ea2, -, HVV⟩ := HO9.out.has.Pool (k := p) (by rw [HO9.out.len]; exact hpl)
      injection ea2 with ea2
      subst ea2
      rw [E3.out] at HVV
      have r0 := HVV.c0
      have r1 := HVV.c1
      have r2 := HVV.c2
      clear HVV
      dsimp only at r0 r1 r2
      simp only [addO, Nat.zero_add] at r0 r1 r2
      obtain ⟨a2, ea2, -, HVV⟩ := HO9.out.has.Pool (k := r) (by rw [HO9.out.len]; exact hrl)
      injection ea2 with ea2
      subst ea2
      rw [E4.out] at HVV
      have s0 := HVV.c0
      have s1 := HVV.c1
      have s2 := HVV.c2
      clear HVV
      dsimp only at s0 s1 s2
      simp only [addO, Nat.zero_add] at s0 s1 s2
      have R0 := fun (d : Nat) (os : Array Obj) => cell_regrown r0 d os
      have R1 := fun (d : Nat) (os : Array Obj) => cell_regrown r1 d os
      have R2 := fun (d : Nat) (os : Array Obj) => cell_regrown r2 d os
      have S0 := fun (d : Nat) (os : Array Obj) => cell_regrown s0 d os
      have S1 := fun (d : Nat) (os : Array Obj) => cell_regrown s1 d os
      have S2 := fun (d : Nat) (os : Array Obj) => cell_regrown s2 d os
      have k1 := fun (dr : Nat) (os : Array Obj) => Calls.regrown_of (w := w9) (d := dr) (os := os) (flowI_any m0 m1 m2 n0 n1 n2 _ 0 true F1.out)
      clear r0 r1 r2 s0 s1 s2
      go_wp2_with fail
      refine wp_region_quiet_below (by kernel_rfl) (by kernel_rfl) ?_
      repeat (go_big_quiet_step (first | exact k1 _ _))
      refine wpQuiet_nil ?_
      intro _ hw'
      obtain ⟨⟨dq, osq⟩, hw''⟩ := hw'
      subst hw''
      have HB10 := Lib.hid (HB9.out.trans ((below_regrown w9 dq osq).mono HB9.out.size))
      have HO10 := Lib.hid (HO9.out.all.below (below_regrown w9 dq osq) (Nat.le_refl _)).all
      clear R0 R1 R2 S0 S1 S2 k1 HO9 HV9 HB9 F1
      dsimp only
      generalize Go.Sort.grow (redrawn w9 dq) osq = w10 at HB10 HO10 ⊢
      obtain ⟨a2, ea2, -, HVV⟩ := HO10.out.has.Pool (k := p) (by rw [HO10.out.len]; exact hpl)
      injection ea2 with ea2
      subst ea2
      rw [E3.out] at HVV
      have r0 := HVV.c0
      have r1 := HVV.c1
      have r2 := HVV.c2
      clear HVV
      dsimp only at r0 r1 r2
      simp only [addO, Nat.zero_add] at r0 r1 r2
      obtain ⟨a2, ea2, -, HVV⟩ := HO10.out.has.Pool (k := r) (by rw [HO10.out.len]; exact hrl)
      injection ea2 with ea2
      subst ea2
      rw [E4.out] at HVV
      have s0 := HVV.c0
      have s1 := HVV.c1
      have s2 := HVV.c2
      clear HVV
      dsimp only at s0 s1 s2
      simp only [addO, Nat.zero_add] at s0 s1 s2
      have R0 := fun (d : Nat) (os : Array Obj) => cell_regrown r0 d os
      have R1 := fun (d : Nat) (os : Array Obj) => cell_regrown r1 d os
      have R2 := fun (d : Nat) (os : Array Obj) => cell_regrown r2 d os
      have S0 := fun (d : Nat) (os : Array Obj) => cell_regrown s0 d os
      have S1 := fun (d : Nat) (os : Array Obj) => cell_regrown s1 d os
      have S2 := fun (d : Nat) (os : Array Obj) => cell_regrown s2 d os
      have k1 := fun (dr : Nat) (os : Array Obj) => Calls.regrown_of (w := w10) (d := dr) (os := os) (flowI_any n0 n1 n2 m0 m1 m2 _ y true F2.out)
      clear r0 r1 r2 s0 s1 s2
      go_wp2_with fail
      refine wp_region_quiet_below (by kernel_rfl) (by kernel_rfl) ?_
      repeat (go_big_quiet_step (first | exact k1 _ _))
      refine wpQuiet_nil ?_
      intro _ hw'
      obtain ⟨⟨dq, osq⟩, hw''⟩ := hw'
      subst hw''
      have HB11 := Lib.hid (HB10.out.trans ((below_regrown w10 dq osq).mono HB10.out.size))
      have HO11 := Lib.hid (HO10.out.all.below (below_regrown w10 dq osq) (Nat.le_refl _)).all
      clear R0 R1 R2 S0 S1 S2 k1 HO10 HB10 F2 E3 E4
      dsimp only
      generalize Go.Sort.grow (redrawn w10 dq) osq = w11 at HB11 HO11 ⊢
      have C8 := Lib.hid (arePools_any c3 HO11.out (by unfold maxLen; omega))
      rw [GL.out] at C8
      by_cases hpos : 0 < z
      · obtain rfl := hy hpos
        go_wp2_with fail
        refine C8.out.mono ?_
        rintro e w12 ⟨rfl, hb⟩
        have HB12 := Lib.hid (HB11.out.trans (hb.mono HB11.out.size))
        clear hb C8 HB11 HO11 hy GL hpos
        have D2 := Lib.hid (drawFB_any c (HC.out.on HB12.out))
        go_wp2_with fail
        refine D2.out.mono ?_
        rintro e w20 ⟨a0, a1, a2, b0, b1, b2, rfl, hb⟩
        have HB20 := Lib.hid (HB12.out.trans (hb.mono HB12.out.size))
        have hb2 := below2 w20 (.cells #[.int .i64 a0, .int .i64 a1, .int .i64 a2] 35) (.cells #[.int .i64 b0, .int .i64 b1, .int .i64 b2] 35)
        have BA0 := Lib.hid ((BoxP.new w20 a0 a1 a2).all (below1 _ (.cells #[.int .i64 b0, .int .i64 b1, .int .i64 b2] 35)))
        have BB0 : Hid (BoxP ((w20.alloc (.cells #[.int .i64 a0, .int .i64 a1, .int .i64 a2] 35)).alloc (.cells #[.int .i64 b0, .int .i64 b1, .int .i64 b2] 35)) (w20.heap.size + 1) b0 b1 b2) := Lib.hid (World.size_alloc w20 (.cells #[.int .i64 a0, .int .i64 a1, .int .i64 a2] 35) ▸ BoxP.new _ b0 b1 b2)
        have HB21 := Lib.hid (HB20.out.trans (hb2.mono HB20.out.size))
        clear D2 hb hb2 HB20 HB12
        go_wp2_with fail
        obtain ⟨w21, hw21⟩ : ∃ W, ((w20.alloc (.cells #[.int .i64 a0, .int .i64 a1, .int .i64 a2] 35)).alloc (.cells #[.int .i64 b0, .int .i64 b1, .int .i64 b2] 35)) = W := ⟨_, rfl⟩
        obtain ⟨xf, hxf⟩ : ∃ x, w20.heap.size = x := ⟨_, rfl⟩
        rw [hw21] at BA0 BB0 HB21 ⊢
        rw [hxf] at BA0 BB0
        try simp only [hxf]
        clear hw21 hxf
        obtain ⟨z3, x3, hA3⟩ := floA_ex ⟨a0, a1, a2⟩ ⟨b0, b1, b2⟩
        have HA3 := Lib.hid hA3
        have hle := hA3.le
        dsimp only at hle
        have hz3 : (z3 != z3) = false := by simp
        have hx3 : (x3 != x3) = false := by simp
        have y0 := BA0.out.c0
        have y1 := BA0.out.c1
        have y2 := BA0.out.c2
        have u0 := BB0.out.c0
        have u1 := BB0.out.c1
        have u2 := BB0.out.c2
        clear hA3
        go_wp2_with fail
        refine (flowI_any a0 a1 a2 b0 b1 b2 _ z3 x3 HA3.out).mono ?_
        rintro e w22 ⟨rfl, hb⟩
        have HB22 := Lib.hid (HB21.out.trans (hb.mono HB21.out.size))
        have BA1 := Lib.hid (BA0.out.all hb)
        have BB1 := Lib.hid (BB0.out.all hb)
        clear hb HB21 BA0 BB0 y0 y1 y2 u0 u1 u2
        have y0 := BA1.out.c0
        have y1 := BA1.out.c1
        have y2 := BA1.out.c2
        have u0 := BB1.out.c0
        have u1 := BB1.out.c1
        have u2 := BB1.out.c2
        go_wp2_with fail
        refine (flowS_any a0 a1 a2 b0 b1 b2 _ z3 x3 HA3.out).mono ?_
        rintro e w23 ⟨rfl, hb⟩
        have HB23 := Lib.hid (HB22.out.trans (hb.mono HB22.out.size))
        have BA2 := Lib.hid (BA1.out.all hb)
        clear hb HB22 BA1 BB1 y0 y1 y2 u0 u1 u2 HA3
        have y2 := BA2.out.c2
        cases x3 with
        | false =>
          clear hle
          by_cases hc : a2 < z3
          · go_wp2_with fail
            clear y2 BA2 hc
            have D3 := Lib.hid (drawLv_any c (HC.out.on HB23.out))
            go_wp2_with fail
            refine D3.out.mono ?_
            rintro e w40 ⟨f0, f1, f2, rfl, hb⟩
            have HB40 := Lib.hid (HB23.out.trans (hb.mono HB23.out.size))
            have hb2 := below1 w40 (.cells #[.int .i64 f0, .int .i64 f1, .int .i64 f2] 35)
            have BX0 := Lib.hid (BoxP.new w40 f0 f1 f2)
            have HB41 := Lib.hid (HB40.out.trans (hb2.mono HB40.out.size))
            clear D3 hb hb2 HB40 HB23
            go_wp2_with fail
            obtain ⟨w41, hw41⟩ : ∃ W, (w40.alloc (.cells #[.int .i64 f0, .int .i64 f1, .int .i64 f2] 35)) = W := ⟨_, rfl⟩
            obtain ⟨xf, hxf⟩ : ∃ x, w40.heap.size = x := ⟨_, rfl⟩
            rw [hw41] at BX0 HB41 ⊢
            rw [hxf] at BX0
            try simp only [hxf]
            clear hw41 hxf
            obtain ⟨p4, q4, x4, hA4⟩ := lvlA_ex ⟨f0, f1, f2⟩
            have HA4 := Lib.hid hA4
            have hp4 : (p4 != p4) = false := by simp
            have hq4 : (q4 != q4) = false := by simp
            have hx4 : (x4 != x4) = false := by simp
            have y0 := BX0.out.c0
            have y1 := BX0.out.c1
            have y2 := BX0.out.c2
            clear hA4
            go_wp2_with fail
            refine (levelI_any f0 f1 f2 _ p4 q4 x4 HA4.out).mono ?_
            rintro e w42 ⟨rfl, hb⟩
            have HB42 := Lib.hid (HB41.out.trans (hb.mono HB41.out.size))
            have BX1 := Lib.hid (BX0.out.all hb)
            clear hb HB41 BX0 y0 y1 y2
            have y0 := BX1.out.c0
            have y1 := BX1.out.c1
            have y2 := BX1.out.c2
            go_wp2_with fail
            refine (levelS_any f0 f1 f2 _ p4 q4 x4 HA4.out).mono ?_
            rintro e w43 ⟨rfl, hb⟩
            have HB43 := Lib.hid (HB42.out.trans (hb.mono HB42.out.size))
            have BX2 := Lib.hid (BX1.out.all hb)
            clear hb HB42 BX1 y0 y1 y2
            have y0 := BX2.out.c0
            have y1 := BX2.out.c1
            have y2 := BX2.out.c2
            have C5 := Lib.hid (isPool_any f0 f1 f2 w43)
            rw [HA4.out.told] at C5
            go_wp2_with fail
            refine C5.out.mono ?_
            rintro e w44 ⟨rfl, hb⟩
            have HB44 := Lib.hid (HB43.out.trans (hb.mono HB43.out.size))
            have BX3 := Lib.hid (BX2.out.all hb)
            clear hb C5 HB43 BX2 y0 y1 y2
            have y0 := BX3.out.c0
            have y1 := BX3.out.c1
            have y2 := BX3.out.c2
            cases x4 with
            | false =>
              clear HA4
              go_wp2_with fail
              clear y0 y1 y2 BX3
              have D4 := Lib.hid (drawQ_any c (HC.out.on HB44.out))
              go_wp2_with fail
              refine D4.out.mono ?_
              rintro e w60 ⟨g8, c8, q8, us, rfl, hq8, hqc8, hU, hb⟩
              have HB60 := Lib.hid (HB44.out.trans (hb.mono HB44.out.size))
              have HU := Lib.hid hU
              obtain ⟨z5, x5, hA5⟩ := allA_ex us
              have HA5 := Lib.hid hA5
              have hz5 : (z5 == z5) = true := by simp
              have hx5 : (x5 == x5) = true := by simp
              clear D4 hU hb hA5 HB44
              go_wp2_with fail
              refine (allI_any c8 HU.out (by omega) z5 x5 HA5.out).mono ?_
              rintro e w61 ⟨rfl, hb⟩
              have HB61 := Lib.hid (HB60.out.trans (hb.mono HB60.out.size))
              have HU1 := Lib.hid (HU.out.below hb HU.out.low)
              clear hb HB60 HU
              go_wp2_with fail
              refine (allS_any c8 HU1.out (by omega) z5 x5 HA5.out).mono ?_
              rintro e w62 ⟨rfl, hb⟩
              have HB62 := Lib.hid (HB61.out.trans (hb.mono HB61.out.size))
              clear hb HB61 HU1 HA5
              go_wp2_with fail
              go_ret
              exact ⟨rfl, HB62.out⟩
            | true =>
              obtain ⟨h1, h2, h3, h4⟩ := HA4.out.same
              dsimp only at h1 h2 h3 h4
              clear HA4
              go_wp2_with fail
              clear y0 y1 y2 BX3 h1 h2 h3 h4
              have D4 := Lib.hid (drawQ_any c (HC.out.on HB44.out))
              go_wp2_with fail
              refine D4.out.mono ?_
              rintro e w60 ⟨g8, c8, q8, us, rfl, hq8, hqc8, hU, hb⟩
              have HB60 := Lib.hid (HB44.out.trans (hb.mono HB44.out.size))
              have HU := Lib.hid hU
              obtain ⟨z5, x5, hA5⟩ := allA_ex us
              have HA5 := Lib.hid hA5
              have hz5 : (z5 == z5) = true := by simp
              have hx5 : (x5 == x5) = true := by simp
              clear D4 hU hb hA5 HB44
              go_wp2_with fail
              refine (allI_any c8 HU.out (by omega) z5 x5 HA5.out).mono ?_
              rintro e w61 ⟨rfl, hb⟩
              have HB61 := Lib.hid (HB60.out.trans (hb.mono HB60.out.size))
              have HU1 := Lib.hid (HU.out.below hb HU.out.low)
              clear hb HB60 HU
              go_wp2_with fail
              refine (allS_any c8 HU1.out (by omega) z5 x5 HA5.out).mono ?_
              rintro e w62 ⟨rfl, hb⟩
              have HB62 := Lib.hid (HB61.out.trans (hb.mono HB61.out.size))
              clear hb HB61 HU1 HA5
              go_wp2_with fail
              go_ret
              exact ⟨rfl, HB62.out⟩
          · go_wp2_with fail
            clear y2 BA2 hc
            have D3 := Lib.hid (drawLv_any c (HC.out.on HB23.out))
            go_wp2_with fail
            refine D3.out.mono ?_
            rintro e w40 ⟨f0, f1, f2, rfl, hb⟩
            have HB40 := Lib.hid (HB23.out.trans (hb.mono HB23.out.size))
            have hb2 := below1 w40 (.cells #[.int .i64 f0, .int .i64 f1, .int .i64 f2] 35)
            have BX0 := Lib.hid (BoxP.new w40 f0 f1 f2)
            have HB41 := Lib.hid (HB40.out.trans (hb2.mono HB40.out.size))
            clear D3 hb hb2 HB40 HB23
            go_wp2_with fail
            obtain ⟨w41, hw41⟩ : ∃ W, (w40.alloc (.cells #[.int .i64 f0, .int .i64 f1, .int .i64 f2] 35)) = W := ⟨_, rfl⟩
            obtain ⟨xf, hxf⟩ : ∃ x, w40.heap.size = x := ⟨_, rfl⟩
            rw [hw41] at BX0 HB41 ⊢
            rw [hxf] at BX0
            try simp only [hxf]
            clear hw41 hxf
            obtain ⟨p4, q4, x4, hA4⟩ := lvlA_ex ⟨f0, f1, f2⟩
            have HA4 := Lib.hid hA4
            have hp4 : (p4 != p4) = false := by simp
            have hq4 : (q4 != q4) = false := by simp
            have hx4 : (x4 != x4) = false := by simp
            have y0 := BX0.out.c0
            have y1 := BX0.out.c1
            have y2 := BX0.out.c2
            clear hA4
            go_wp2_with fail
            refine (levelI_any f0 f1 f2 _ p4 q4 x4 HA4.out).mono ?_
            rintro e w42 ⟨rfl, hb⟩
            have HB42 := Lib.hid (HB41.out.trans (hb.mono HB41.out.size))
            have BX1 := Lib.hid (BX0.out.all hb)
            clear hb HB41 BX0 y0 y1 y2
            have y0 := BX1.out.c0
            have y1 := BX1.out.c1
            have y2 := BX1.out.c2
            go_wp2_with fail
            refine (levelS_any f0 f1 f2 _ p4 q4 x4 HA4.out).mono ?_
            rintro e w43 ⟨rfl, hb⟩
            have HB43 := Lib.hid (HB42.out.trans (hb.mono HB42.out.size))
            have BX2 := Lib.hid (BX1.out.all hb)
            clear hb HB42 BX1 y0 y1 y2
            have y0 := BX2.out.c0
            have y1 := BX2.out.c1
            have y2 := BX2.out.c2
            have C5 := Lib.hid (isPool_any f0 f1 f2 w43)
            rw [HA4.out.told] at C5
            go_wp2_with fail
            refine C5.out.mono ?_
            rintro e w44 ⟨rfl, hb⟩
            have HB44 := Lib.hid (HB43.out.trans (hb.mono HB43.out.size))
            have BX3 := Lib.hid (BX2.out.all hb)
            clear hb C5 HB43 BX2 y0 y1 y2
            have y0 := BX3.out.c0
            have y1 := BX3.out.c1
            have y2 := BX3.out.c2
            cases x4 with
            | false =>
              clear HA4
              go_wp2_with fail
              clear y0 y1 y2 BX3
              have D4 := Lib.hid (drawQ_any c (HC.out.on HB44.out))
              go_wp2_with fail
              refine D4.out.mono ?_
              rintro e w60 ⟨g8, c8, q8, us, rfl, hq8, hqc8, hU, hb⟩
              have HB60 := Lib.hid (HB44.out.trans (hb.mono HB44.out.size))
              have HU := Lib.hid hU
              obtain ⟨z5, x5, hA5⟩ := allA_ex us
              have HA5 := Lib.hid hA5
              have hz5 : (z5 == z5) = true := by simp
              have hx5 : (x5 == x5) = true := by simp
              clear D4 hU hb hA5 HB44
              go_wp2_with fail
              refine (allI_any c8 HU.out (by omega) z5 x5 HA5.out).mono ?_
              rintro e w61 ⟨rfl, hb⟩
              have HB61 := Lib.hid (HB60.out.trans (hb.mono HB60.out.size))
              have HU1 := Lib.hid (HU.out.below hb HU.out.low)
              clear hb HB60 HU
              go_wp2_with fail
              refine (allS_any c8 HU1.out (by omega) z5 x5 HA5.out).mono ?_
              rintro e w62 ⟨rfl, hb⟩
              have HB62 := Lib.hid (HB61.out.trans (hb.mono HB61.out.size))
              clear hb HB61 HU1 HA5
              go_wp2_with fail
              go_ret
              exact ⟨rfl, HB62.out⟩
            | true =>
              obtain ⟨h1, h2, h3, h4⟩ := HA4.out.same
              dsimp only at h1 h2 h3 h4
              clear HA4
              go_wp2_with fail
              clear y0 y1 y2 BX3 h1 h2 h3 h4
              have D4 := Lib.hid (drawQ_any c (HC.out.on HB44.out))
              go_wp2_with fail
              refine D4.out.mono ?_
              rintro e w60 ⟨g8, c8, q8, us, rfl, hq8, hqc8, hU, hb⟩
              have HB60 := Lib.hid (HB44.out.trans (hb.mono HB44.out.size))
              have HU := Lib.hid hU
              obtain ⟨z5, x5, hA5⟩ := allA_ex us
              have HA5 := Lib.hid hA5
              have hz5 : (z5 == z5) = true := by simp
              have hx5 : (x5 == x5) = true := by simp
              clear D4 hU hb hA5 HB44
              go_wp2_with fail
              refine (allI_any c8 HU.out (by omega) z5 x5 HA5.out).mono ?_
              rintro e w61 ⟨rfl, hb⟩
              have HB61 := Lib.hid (HB60.out.trans (hb.mono HB60.out.size))
              have HU1 := Lib.hid (HU.out.below hb HU.out.low)
              clear hb HB60 HU
              go_wp2_with fail
              refine (allS_any c8 HU1.out (by omega) z5 x5 HA5.out).mono ?_
              rintro e w62 ⟨rfl, hb⟩
              have HB62 := Lib.hid (HB61.out.trans (hb.mono HB61.out.size))
              clear hb HB61 HU1 HA5
              go_wp2_with fail
              go_ret
              exact ⟨rfl, HB62.out⟩
        | true =>
          obtain hle : z3 ≤ a2 := hle.resolve_left (by decide)
          go_wp2_with fail
          clear y2 BA2
          have D3 := Lib.hid (drawLv_any c (HC.out.on HB23.out))
          go_wp2_with fail
          refine D3.out.mono ?_
          rintro e w40 ⟨f0, f1, f2, rfl, hb⟩
          have HB40 := Lib.hid (HB23.out.trans (hb.mono HB23.out.size))
          have hb2 := below1 w40 (.cells #[.int .i64 f0, .int .i64 f1, .int .i64 f2] 35)
          have BX0 := Lib.hid (BoxP.new w40 f0 f1 f2)
          have HB41 := Lib.hid (HB40.out.trans (hb2.mono HB40.out.size))
          clear D3 hb hb2 HB40 HB23
          go_wp2_with fail
          obtain ⟨w41, hw41⟩ : ∃ W, (w40.alloc (.cells #[.int .i64 f0, .int .i64 f1, .int .i64 f2] 35)) = W := ⟨_, rfl⟩
          obtain ⟨xf, hxf⟩ : ∃ x, w40.heap.size = x := ⟨_, rfl⟩
          rw [hw41] at BX0 HB41 ⊢
          rw [hxf] at BX0
          try simp only [hxf]
          clear hw41 hxf
          obtain ⟨p4, q4, x4, hA4⟩ := lvlA_ex ⟨f0, f1, f2⟩
          have HA4 := Lib.hid hA4
          have hp4 : (p4 != p4) = false := by simp
          have hq4 : (q4 != q4) = false := by simp
          have hx4 : (x4 != x4) = false := by simp
          have y0 := BX0.out.c0
          have y1 := BX0.out.c1
          have y2 := BX0.out.c2
          clear hA4
          go_wp2_with fail
          refine (levelI_any f0 f1 f2 _ p4 q4 x4 HA4.out).mono ?_
          rintro e w42 ⟨rfl, hb⟩
          have HB42 := Lib.hid (HB41.out.trans (hb.mono HB41.out.size))
          have BX1 := Lib.hid (BX0.out.all hb)
          clear hb HB41 BX0 y0 y1 y2
          have y0 := BX1.out.c0
          have y1 := BX1.out.c1
          have y2 := BX1.out.c2
          go_wp2_with fail
          refine (levelS_any f0 f1 f2 _ p4 q4 x4 HA4.out).mono ?_
          rintro e w43 ⟨rfl, hb⟩
          have HB43 := Lib.hid (HB42.out.trans (hb.mono HB42.out.size))
          have BX2 := Lib.hid (BX1.out.all hb)
          clear hb HB42 BX1 y0 y1 y2
          have y0 := BX2.out.c0
          have y1 := BX2.out.c1
          have y2 := BX2.out.c2
          have C5 := Lib.hid (isPool_any f0 f1 f2 w43)
          rw [HA4.out.told] at C5
          go_wp2_with fail
          refine C5.out.mono ?_
          rintro e w44 ⟨rfl, hb⟩
          have HB44 := Lib.hid (HB43.out.trans (hb.mono HB43.out.size))
          have BX3 := Lib.hid (BX2.out.all hb)
          clear hb C5 HB43 BX2 y0 y1 y2
          have y0 := BX3.out.c0
          have y1 := BX3.out.c1
          have y2 := BX3.out.c2
          cases x4 with
          | false =>
            clear HA4
            go_wp2_with fail
            clear y0 y1 y2 BX3
            have D4 := Lib.hid (drawQ_any c (HC.out.on HB44.out))
            go_wp2_with fail
            refine D4.out.mono ?_
            rintro e w60 ⟨g8, c8, q8, us, rfl, hq8, hqc8, hU, hb⟩
            have HB60 := Lib.hid (HB44.out.trans (hb.mono HB44.out.size))
            have HU := Lib.hid hU
            obtain ⟨z5, x5, hA5⟩ := allA_ex us
            have HA5 := Lib.hid hA5
            have hz5 : (z5 == z5) = true := by simp
            have hx5 : (x5 == x5) = true := by simp
            clear D4 hU hb hA5 HB44
            go_wp2_with fail
            refine (allI_any c8 HU.out (by omega) z5 x5 HA5.out).mono ?_
            rintro e w61 ⟨rfl, hb⟩
            have HB61 := Lib.hid (HB60.out.trans (hb.mono HB60.out.size))
            have HU1 := Lib.hid (HU.out.below hb HU.out.low)
            clear hb HB60 HU
            go_wp2_with fail
            refine (allS_any c8 HU1.out (by omega) z5 x5 HA5.out).mono ?_
            rintro e w62 ⟨rfl, hb⟩
            have HB62 := Lib.hid (HB61.out.trans (hb.mono HB61.out.size))
            clear hb HB61 HU1 HA5
            go_wp2_with fail
            go_ret
            exact ⟨rfl, HB62.out⟩
          | true =>
            obtain ⟨h1, h2, h3, h4⟩ := HA4.out.same
            dsimp only at h1 h2 h3 h4
            clear HA4
            go_wp2_with fail
            clear y0 y1 y2 BX3 h1 h2 h3 h4
            have D4 := Lib.hid (drawQ_any c (HC.out.on HB44.out))
            go_wp2_with fail
            refine D4.out.mono ?_
            rintro e w60 ⟨g8, c8, q8, us, rfl, hq8, hqc8, hU, hb⟩
            have HB60 := Lib.hid (HB44.out.trans (hb.mono HB44.out.size))
            have HU := Lib.hid hU
            obtain ⟨z5, x5, hA5⟩ := allA_ex us
            have HA5 := Lib.hid hA5
            have hz5 : (z5 == z5) = true := by simp
            have hx5 : (x5 == x5) = true := by simp
            clear D4 hU hb hA5 HB44
            go_wp2_with fail
            refine (allI_any c8 HU.out (by omega) z5 x5 HA5.out).mono ?_
            rintro e w61 ⟨rfl, hb⟩
            have HB61 := Lib.hid (HB60.out.trans (hb.mono HB60.out.size))
            have HU1 := Lib.hid (HU.out.below hb HU.out.low)
            clear hb HB60 HU
            go_wp2_with fail
            refine (allS_any c8 HU1.out (by omega) z5 x5 HA5.out).mono ?_
            rintro e w62 ⟨rfl, hb⟩
            have HB62 := Lib.hid (HB61.out.trans (hb.mono HB61.out.size))
            clear hb HB61 HU1 HA5
            go_wp2_with fail
            go_ret
            exact ⟨rfl, HB62.out⟩
      · clear hy
        go_wp2_with fail
        refine C8.out.mono ?_
        rintro e w12 ⟨rfl, hb⟩
        have HB12 := Lib.hid (HB11.out.trans (hb.mono HB11.out.size))
        clear hb C8 HB11 HO11 GL hpos
        have D2 := Lib.hid (drawFB_any c (HC.out.on HB12.out))
        go_wp2_with fail
        refine D2.out.mono ?_
        rintro e w20 ⟨a0, a1, a2, b0, b1, b2, rfl, hb⟩
        have HB20 := Lib.hid (HB12.out.trans (hb.mono HB12.out.size))
        have hb2 := below2 w20 (.cells #[.int .i64 a0, .int .i64 a1, .int .i64 a2] 35) (.cells #[.int .i64 b0, .int .i64 b1, .int .i64 b2] 35)
        have BA0 := Lib.hid ((BoxP.new w20 a0 a1 a2).all (below1 _ (.cells #[.int .i64 b0, .int .i64 b1, .int .i64 b2] 35)))
        have BB0 : Hid (BoxP ((w20.alloc (.cells #[.int .i64 a0, .int .i64 a1, .int .i64 a2] 35)).alloc (.cells #[.int .i64 b0, .int .i64 b1, .int .i64 b2] 35)) (w20.heap.size + 1) b0 b1 b2) := Lib.hid (World.size_alloc w20 (.cells #[.int .i64 a0, .int .i64 a1, .int .i64 a2] 35) ▸ BoxP.new _ b0 b1 b2)
        have HB21 := Lib.hid (HB20.out.trans (hb2.mono HB20.out.size))
        clear D2 hb hb2 HB20 HB12
        go_wp2_with fail
        obtain ⟨w21, hw21⟩ : ∃ W, ((w20.alloc (.cells #[.int .i64 a0, .int .i64 a1, .int .i64 a2] 35)).alloc (.cells #[.int .i64 b0, .int .i64 b1, .int .i64 b2] 35)) = W := ⟨_, rfl⟩
        obtain ⟨xf, hxf⟩ : ∃ x, w20.heap.size = x := ⟨_, rfl⟩
        rw [hw21] at BA0 BB0 HB21 ⊢
        rw [hxf] at BA0 BB0
        try simp only [hxf]
        clear hw21 hxf
        obtain ⟨z3, x3, hA3⟩ := floA_ex ⟨a0, a1, a2⟩ ⟨b0, b1, b2⟩
        have HA3 := Lib.hid hA3
        have hle := hA3.le
        dsimp only at hle
        have hz3 : (z3 != z3) = false := by simp
        have hx3 : (x3 != x3) = false := by simp
        have y0 := BA0.out.c0
        have y1 := BA0.out.c1
        have y2 := BA0.out.c2
        have u0 := BB0.out.c0
        have u1 := BB0.out.c1
        have u2 := BB0.out.c2
        clear hA3
        go_wp2_with fail
        refine (flowI_any a0 a1 a2 b0 b1 b2 _ z3 x3 HA3.out).mono ?_
        rintro e w22 ⟨rfl, hb⟩
        have HB22 := Lib.hid (HB21.out.trans (hb.mono HB21.out.size))
        have BA1 := Lib.hid (BA0.out.all hb)
        have BB1 := Lib.hid (BB0.out.all hb)
        clear hb HB21 BA0 BB0 y0 y1 y2 u0 u1 u2
        have y0 := BA1.out.c0
        have y1 := BA1.out.c1
        have y2 := BA1.out.c2
        have u0 := BB1.out.c0
        have u1 := BB1.out.c1
        have u2 := BB1.out.c2
        go_wp2_with fail
        refine (flowS_any a0 a1 a2 b0 b1 b2 _ z3 x3 HA3.out).mono ?_
        rintro e w23 ⟨rfl, hb⟩
        have HB23 := Lib.hid (HB22.out.trans (hb.mono HB22.out.size))
        have BA2 := Lib.hid (BA1.out.all hb)
        clear hb HB22 BA1 BB1 y0 y1 y2 u0 u1 u2 HA3
        have y2 := BA2.out.c2
        cases x3 with
        | false =>
          clear hle
          by_cases hc : a2 < z3
          · go_wp2_with fail
            clear y2 BA2 hc
            have D3 := Lib.hid (drawLv_any c (HC.out.on HB23.out))
            go_wp2_with fail
            refine D3.out.mono ?_
            rintro e w40 ⟨f0, f1, f2, rfl, hb⟩
            have HB40 := Lib.hid (HB23.out.trans (hb.mono HB23.out.size))
            have hb2 := below1 w40 (.cells #[.int .i64 f0, .int .i64 f1, .int .i64 f2] 35)
            have BX0 := Lib.hid (BoxP.new w40 f0 f1 f2)
            have HB41 := Lib.hid (HB40.out.trans (hb2.mono HB40.out.size))
            clear D3 hb hb2 HB40 HB23
            go_wp2_with fail
            obtain ⟨w41, hw41⟩ : ∃ W, (w40.alloc (.cells #[.int .i64 f0, .int .i64 f1, .int .i64 f2] 35)) = W := ⟨_, rfl⟩
            obtain ⟨xf, hxf⟩ : ∃ x, w40.heap.size = x := ⟨_, rfl⟩
            rw [hw41] at BX0 HB41 ⊢
            rw [hxf] at BX0
            try simp only [hxf]
            clear hw41 hxf
            obtain ⟨p4, q4, x4, hA4⟩ := lvlA_ex ⟨f0, f1, f2⟩
            have HA4 := Lib.hid hA4
            have hp4 : (p4 != p4) = false := by simp
            have hq4 : (q4 != q4) = false := by simp
            have hx4 : (x4 != x4) = false := by simp
            have y0 := BX0.out.c0
            have y1 := BX0.out.c1
            have y2 := BX0.out.c2
            clear hA4
            go_wp2_with fail
            refine (levelI_any f0 f1 f2 _ p4 q4 x4 HA4.out).mono ?_
            rintro e w42 ⟨rfl, hb⟩
            have HB42 := Lib.hid (HB41.out.trans (hb.mono HB41.out.size))
            have BX1 := Lib.hid (BX0.out.all hb)
            clear hb HB41 BX0 y0 y1 y2
            have y0 := BX1.out.c0
            have y1 := BX1.out.c1
            have y2 := BX1.out.c2
            go_wp2_with fail
            refine (levelS_any f0 f1 f2 _ p4 q4 x4 HA4.out).mono ?_
            rintro e w43 ⟨rfl, hb⟩
            have HB43 := Lib.hid (HB42.out.trans (hb.mono HB42.out.size))
            have BX2 := Lib.hid (BX1.out.all hb)
            clear hb HB42 BX1 y0 y1 y2
            have y0 := BX2.out.c0
            have y1 := BX2.out.c1
            have y2 := BX2.out.c2
            have C5 := Lib.hid (isPool_any f0 f1 f2 w43)
            rw [HA4.out.told] at C5
            go_wp2_with fail
            refine C5.out.mono ?_
            rintro e w44 ⟨rfl, hb⟩
            have HB44 := Lib.hid (HB43.out.trans (hb.mono HB43.out.size))
            have BX3 := Lib.hid (BX2.out.all hb)
            clear hb C5 HB43 BX2 y0 y1 y2
            have y0 := BX3.out.c0
            have y1 := BX3.out.c1
            have y2 := BX3.out.c2
            cases x4 with
            | false =>
              clear HA4
              go_wp2_with fail
              clear y0 y1 y2 BX3
              have D4 := Lib.hid (drawQ_any c (HC.out.on HB44.out))
              go_wp2_with fail
              refine D4.out.mono ?_
              rintro e w60 ⟨g8, c8, q8, us, rfl, hq8, hqc8, hU, hb⟩
              have HB60 := Lib.hid (HB44.out.trans (hb.mono HB44.out.size))
              have HU := Lib.hid hU
              obtain ⟨z5, x5, hA5⟩ := allA_ex us
              have HA5 := Lib.hid hA5
              have hz5 : (z5 == z5) = true := by simp
              have hx5 : (x5 == x5) = true := by simp
              clear D4 hU hb hA5 HB44
              go_wp2_with fail
              refine (allI_any c8 HU.out (by omega) z5 x5 HA5.out).mono ?_
              rintro e w61 ⟨rfl, hb⟩
              have HB61 := Lib.hid (HB60.out.trans (hb.mono HB60.out.size))
              have HU1 := Lib.hid (HU.out.below hb HU.out.low)
              clear hb HB60 HU
              go_wp2_with fail
              refine (allS_any c8 HU1.out (by omega) z5 x5 HA5.out).mono ?_
              rintro e w62 ⟨rfl, hb⟩
              have HB62 := Lib.hid (HB61.out.trans (hb.mono HB61.out.size))
              clear hb HB61 HU1 HA5
              go_wp2_with fail
              go_ret
              exact ⟨rfl, HB62.out⟩
            | true =>
              obtain ⟨h1, h2, h3, h4⟩ := HA4.out.same
              dsimp only at h1 h2 h3 h4
              clear HA4
              go_wp2_with fail
              clear y0 y1 y2 BX3 h1 h2 h3 h4
              have D4 := Lib.hid (drawQ_any c (HC.out.on HB44.out))
              go_wp2_with fail
              refine D4.out.mono ?_
              rintro e w60 ⟨g8, c8, q8, us, rfl, hq8, hqc8, hU, hb⟩
              have HB60 := Lib.hid (HB44.out.trans (hb.mono HB44.out.size))
              have HU := Lib.hid hU
              obtain ⟨z5, x5, hA5⟩ := allA_ex us
              have HA5 := Lib.hid hA5
              have hz5 : (z5 == z5) = true := by simp
              have hx5 : (x5 == x5) = true := by simp
              clear D4 hU hb hA5 HB44
              go_wp2_with fail
              refine (allI_any c8 HU.out (by omega) z5 x5 HA5.out).mono ?_
              rintro e w61 ⟨rfl, hb⟩
              have HB61 := Lib.hid (HB60.out.trans (hb.mono HB60.out.size))
              have HU1 := Lib.hid (HU.out.below hb HU.out.low)
              clear hb HB60 HU
              go_wp2_with fail
              refine (allS_any c8 HU1.out (by omega) z5 x5 HA5.out).mono ?_
              rintro e w62 ⟨rfl, hb⟩
              have HB62 := Lib.hid (HB61.out.trans (hb.mono HB61.out.size))
              clear hb HB61 HU1 HA5
              go_wp2_with fail
              go_ret
              exact ⟨rfl, HB62.out⟩
          · go_wp2_with fail
            clear y2 BA2 hc
            have D3 := Lib.hid (drawLv_any c (HC.out.on HB23.out))
            go_wp2_with fail
            refine D3.out.mono ?_
            rintro e w40 ⟨f0, f1, f2, rfl, hb⟩
            have HB40 := Lib.hid (HB23.out.trans (hb.mono HB23.out.size))
            have hb2 := below1 w40 (.cells #[.int .i64 f0, .int .i64 f1, .int .i64 f2] 35)
            have BX0 := Lib.hid (BoxP.new w40 f0 f1 f2)
            have HB41 := Lib.hid (HB40.out.trans (hb2.mono HB40.out.size))
            clear D3 hb hb2 HB40 HB23
            go_wp2_with fail
            obtain ⟨w41, hw41⟩ : ∃ W, (w40.alloc (.cells #[.int .i64 f0, .int .i64 f1, .int .i64 f2] 35)) = W := ⟨_, rfl⟩
            obtain ⟨xf, hxf⟩ : ∃ x, w40.heap.size = x := ⟨_, rfl⟩
            rw [hw41] at BX0 HB41 ⊢
            rw [hxf] at BX0
            try simp only [hxf]
            clear hw41 hxf
            obtain ⟨p4, q4, x4, hA4⟩ := lvlA_ex ⟨f0, f1, f2⟩
            have HA4 := Lib.hid hA4
            have hp4 : (p4 != p4) = false := by simp
            have hq4 : (q4 != q4) = false := by simp
            have hx4 : (x4 != x4) = false := by simp
            have y0 := BX0.out.c0
            have y1 := BX0.out.c1
            have y2 := BX0.out.c2
            clear hA4
            go_wp2_with fail
            refine (levelI_any f0 f1 f2 _ p4 q4 x4 HA4.out).mono ?_
            rintro e w42 ⟨rfl, hb⟩
            have HB42 := Lib.hid (HB41.out.trans (hb.mono HB41.out.size))
            have BX1 := Lib.hid (BX0.out.all hb)
            clear hb HB41 BX0 y0 y1 y2
            have y0 := BX1.out.c0
            have y1 := BX1.out.c1
            have y2 := BX1.out.c2
            go_wp2_with fail
            refine (levelS_any f0 f1 f2 _ p4 q4 x4 HA4.out).mono ?_
            rintro e w43 ⟨rfl, hb⟩
            have HB43 := Lib.hid (HB42.out.trans (hb.mono HB42.out.size))
            have BX2 := Lib.hid (BX1.out.all hb)
            clear hb HB42 BX1 y0 y1 y2
            have y0 := BX2.out.c0
            have y1 := BX2.out.c1
            have y2 := BX2.out.c2
            have C5 := Lib.hid (isPool_any f0 f1 f2 w43)
            rw [HA4.out.told] at C5
            go_wp2_with fail
            refine C5.out.mono ?_
            rintro e w44 ⟨rfl, hb⟩
            have HB44 := Lib.hid (HB43.out.trans (hb.mono HB43.out.size))
            have BX3 := Lib.hid (BX2.out.all hb)
            clear hb C5 HB43 BX2 y0 y1 y2
            have y0 := BX3.out.c0
            have y1 := BX3.out.c1
            have y2 := BX3.out.c2
            cases x4 with
            | false =>
              clear HA4
              go_wp2_with fail
              clear y0 y1 y2 BX3
              have D4 := Lib.hid (drawQ_any c (HC.out.on HB44.out))
              go_wp2_with fail
              refine D4.out.mono ?_
              rintro e w60 ⟨g8, c8, q8, us, rfl, hq8, hqc8, hU, hb⟩
              have HB60 := Lib.hid (HB44.out.trans (hb.mono HB44.out.size))
              have HU := Lib.hid hU
              obtain ⟨z5, x5, hA5⟩ := allA_ex us
              have HA5 := Lib.hid hA5
              have hz5 : (z5 == z5) = true := by simp
              have hx5 : (x5 == x5) = true := by simp
              clear D4 hU hb hA5 HB44
              go_wp2_with fail
              refine (allI_any c8 HU.out (by omega) z5 x5 HA5.out).mono ?_
              rintro e w61 ⟨rfl, hb⟩
              have HB61 := Lib.hid (HB60.out.trans (hb.mono HB60.out.size))
              have HU1 := Lib.hid (HU.out.below hb HU.out.low)
              clear hb HB60 HU
              go_wp2_with fail
              refine (allS_any c8 HU1.out (by omega) z5 x5 HA5.out).mono ?_
              rintro e w62 ⟨rfl, hb⟩
              have HB62 := Lib.hid (HB61.out.trans (hb.mono HB61.out.size))
              clear hb HB61 HU1 HA5
              go_wp2_with fail
              go_ret
              exact ⟨rfl, HB62.out⟩
            | true =>
              obtain ⟨h1, h2, h3, h4⟩ := HA4.out.same
              dsimp only at h1 h2 h3 h4
              clear HA4
              go_wp2_with fail
              clear y0 y1 y2 BX3 h1 h2 h3 h4
              have D4 := Lib.hid (drawQ_any c (HC.out.on HB44.out))
              go_wp2_with fail
              refine D4.out.mono ?_
              rintro e w60 ⟨g8, c8, q8, us, rfl, hq8, hqc8, hU, hb⟩
              have HB60 := Lib.hid (HB44.out.trans (hb.mono HB44.out.size))
              have HU := Lib.hid hU
              obtain ⟨z5, x5, hA5⟩ := allA_ex us
              have HA5 := Lib.hid hA5
              have hz5 : (z5 == z5) = true := by simp
              have hx5 : (x5 == x5) = true := by simp
              clear D4 hU hb hA5 HB44
              go_wp2_with fail
              refine (allI_any c8 HU.out (by omega) z5 x5 HA5.out).mono ?_
              rintro e w61 ⟨rfl, hb⟩
              have HB61 := Lib.hid (HB60.out.trans (hb.mono HB60.out.size))
              have HU1 := Lib.hid (HU.out.below hb HU.out.low)
              clear hb HB60 HU
              go_wp2_with fail
              refine (allS_any c8 HU1.out (by omega) z5 x5 HA5.out).mono ?_
              rintro e w62 ⟨rfl, hb⟩
              have HB62 := Lib.hid (HB61.out.trans (hb.mono HB61.out.size))
              clear hb HB61 HU1 HA5
              go_wp2_with fail
              go_ret
              exact ⟨rfl, HB62.out⟩
        | true =>
          obtain hle : z3 ≤ a2 := hle.resolve_left (by decide)
          go_wp2_with fail
          clear y2 BA2
          have D3 := Lib.hid (drawLv_any c (HC.out.on HB23.out))
          go_wp2_with fail
          refine D3.out.mono ?_
          rintro e w40 ⟨f0, f1, f2, rfl, hb⟩
          have HB40 := Lib.hid (HB23.out.trans (hb.mono HB23.out.size))
          have hb2 := below1 w40 (.cells #[.int .i64 f0, .int .i64 f1, .int .i64 f2] 35)
          have BX0 := Lib.hid (BoxP.new w40 f0 f1 f2)
          have HB41 := Lib.hid (HB40.out.trans (hb2.mono HB40.out.size))
          clear D3 hb hb2 HB40 HB23
          go_wp2_with fail
          obtain ⟨w41, hw41⟩ : ∃ W, (w40.alloc (.cells #[.int .i64 f0, .int .i64 f1, .int .i64 f2] 35)) = W := ⟨_, rfl⟩
          obtain ⟨xf, hxf⟩ : ∃ x, w40.heap.size = x := ⟨_, rfl⟩
          rw [hw41] at BX0 HB41 ⊢
          rw [hxf] at BX0
          try simp only [hxf]
          clear hw41 hxf
          obtain ⟨p4, q4, x4, hA4⟩ := lvlA_ex ⟨f0, f1, f2⟩
          have HA4 := Lib.hid hA4
          have hp4 : (p4 != p4) = false := by simp
          have hq4 : (q4 != q4) = false := by simp
          have hx4 : (x4 != x4) = false := by simp
          have y0 := BX0.out.c0
          have y1 := BX0.out.c1
          have y2 := BX0.out.c2
          clear hA4
          go_wp2_with fail
          refine (levelI_any f0 f1 f2 _ p4 q4 x4 HA4.out).mono ?_
          rintro e w42 ⟨rfl, hb⟩
          have HB42 := Lib.hid (HB41.out.trans (hb.mono HB41.out.size))
          have BX1 := Lib.hid (BX0.out.all hb)
          clear hb HB41 BX0 y0 y1 y2
          have y0 := BX1.out.c0
          have y1 := BX1.out.c1
          have y2 := BX1.out.c2
          go_wp2_with fail
          refine (levelS_any f0 f1 f2 _ p4 q4 x4 HA4.out).mono ?_
          rintro e w43 ⟨rfl, hb⟩
          have HB43 := Lib.hid (HB42.out.trans (hb.mono HB42.out.size))
          have BX2 := Lib.hid (BX1.out.all hb)
          clear hb HB42 BX1 y0 y1 y2
          have y0 := BX2.out.c0
          have y1 := BX2.out.c1
          have y2 := BX2.out.c2
          have C5 := Lib.hid (isPool_any f0 f1 f2 w43)
          rw [HA4.out.told] at C5
          go_wp2_with fail
          refine C5.out.mono ?_
          rintro e w44 ⟨rfl, hb⟩
          have HB44 := Lib.hid (HB43.out.trans (hb.mono HB43.out.size))
          have BX3 := Lib.hid (BX2.out.all hb)
          clear hb C5 HB43 BX2 y0 y1 y2
          have y0 := BX3.out.c0
          have y1 := BX3.out.c1
          have y2 := BX3.out.c2
          cases x4 with
          | false =>
            clear HA4
            go_wp2_with fail
            clear y0 y1 y2 BX3
            have D4 := Lib.hid (drawQ_any c (HC.out.on HB44.out))
            go_wp2_with fail
            refine D4.out.mono ?_
            rintro e w60 ⟨g8, c8, q8, us, rfl, hq8, hqc8, hU, hb⟩
            have HB60 := Lib.hid (HB44.out.trans (hb.mono HB44.out.size))
            have HU := Lib.hid hU
            obtain ⟨z5, x5, hA5⟩ := allA_ex us
            have HA5 := Lib.hid hA5
            have hz5 : (z5 == z5) = true := by simp
            have hx5 : (x5 == x5) = true := by simp
            clear D4 hU hb hA5 HB44
            go_wp2_with fail
            refine (allI_any c8 HU.out (by omega) z5 x5 HA5.out).mono ?_
            rintro e w61 ⟨rfl, hb⟩
            have HB61 := Lib.hid (HB60.out.trans (hb.mono HB60.out.size))
            have HU1 := Lib.hid (HU.out.below hb HU.out.low)
            clear hb HB60 HU
            go_wp2_with fail
            refine (allS_any c8 HU1.out (by omega) z5 x5 HA5.out).mono ?_
            rintro e w62 ⟨rfl, hb⟩
            have HB62 := Lib.hid (HB61.out.trans (hb.mono HB61.out.size))
            clear hb HB61 HU1 HA5
            go_wp2_with fail
            go_ret
            exact ⟨rfl, HB62.out⟩
          | true =>
            obtain ⟨h1, h2, h3, h4⟩ := HA4.out.same
            dsimp only at h1 h2 h3 h4
            clear HA4
            go_wp2_with fail
            clear y0 y1 y2 BX3 h1 h2 h3 h4
            have D4 := Lib.hid (drawQ_any c (HC.out.on HB44.out))
            go_wp2_with fail
            refine D4.out.mono ?_
            rintro e w60 ⟨g8, c8, q8, us, rfl, hq8, hqc8, hU, hb⟩
            have HB60 := Lib.hid (HB44.out.trans (hb.mono HB44.out.size))
            have HU := Lib.hid hU
            obtain ⟨z5, x5, hA5⟩ := allA_ex us
            have HA5 := Lib.hid hA5
            have hz5 : (z5 == z5) = true := by simp
            have hx5 : (x5 == x5) = true := by simp
            clear D4 hU hb hA5 HB44
            go_wp2_with fail
            refine (allI_any c8 HU.out (by omega) z5 x5 HA5.out).mono ?_
            rintro e w61 ⟨rfl, hb⟩
            have HB61 := Lib.hid (HB60.out.trans (hb.mono HB60.out.size))
            have HU1 := Lib.hid (HU.out.below hb HU.out.low)
            clear hb HB60 HU
            go_wp2_with fail
            refine (allS_any c8 HU1.out (by omega) z5 x5 HA5.out).mono ?_
            rintro e w62 ⟨rfl, hb⟩
            have HB62 := Lib.hid (HB61.out.trans (hb.mono HB61.out.size))
            clear hb HB61 HU1 HA5
            go_wp2_with fail
            go_ret
            exact ⟨rfl, HB62.out⟩
theorem own : ownKnob Try.prog.godebug = none := by kernel_rfl
theorem laidOut : laidOutB Try.prog = true := by kernel_rfl

set_option maxRecDepth 100000 in
theorem lifted (os : Os) (started : os.Started) (H : Type) (enc : TypeId × Value → H) :
    ReturnsInHanded {} Try.checked os 3 .any (Rows.fnPoolsSpec.pre6 enc Try.prog Try.f3 Rows.fnPoolsRow.domain false) (Rows.fnPoolsSpec.post enc Try.prog Try.f3 false true false false) := by
  refine returnsInHanded_of_change (C := Try.checked) own started (by kernel_rfl) Try.func3
    (ChangeSpec.witness6 (enc := enc) (C := Try.checked) false ⟨#[], #[.slice none 0 0], []⟩ 8 (by kernel_rfl) (by kernel_rfl) (by kernel_rfl) (by kernel_rfl)) ?_
  intro W base args ds gs before hval0 hW hcnd _
  have hval : ∀ (j : Nat) t v, Try.f3.params[j]? = some t → args[j]? = some v → Value.okWide Try.prog W .any base t v := hval0
  have hW' := hW
  obtain ⟨p, q, hA0, hV, rfl, hfz, hnd⟩ := hW
  have hA : DataW.TrodAll enc Try.prog W 0 (fun _ => true) true Try.f3.params.toList args.toList ds p := hA0
  rw [Try.params3] at hA hval
  obtain ⟨v0, vs0, d0, ds0, p0, q0, hargs, rfl, rfl, h0, r0⟩ := trodAll_cons hA
  obtain ⟨rfl, rfl, rfl⟩ := trodAll_nil r0
  obtain rfl : args = #[v0] := by cases args; simp_all
  obtain ⟨rfl, rfl⟩ := trodVars_none hV
  obtain ⟨a0, len0, cap0, rfl⟩ := okWide_slice Try.underlying22 (hval 0 22 v0 rfl rfl)
  have k0 := h0
  have lt0 : ∀ x ∈ p0, x.block < W.heap.size := by obtain ⟨m, hm⟩ := k0; exact DataW.trod_lt m _ _ _ hm
  obtain ⟨z0, w0⟩ : ∃ zs, IsInts .u8 W a0 len0 zs := by
    obtain ⟨fuel, hf⟩ := h0
    rcases open_ints Try.underlying22 Try.underlying5 (by kernel_rfl) hf with ⟨hcs, _⟩ | ⟨x, l, c, zs, hcs, _, hl, hm, hz, _, hcell, hwz⟩
    · simp [Value.cells] at hcs
      obtain ⟨rfl, rfl, rfl⟩ := hcs
      exact ⟨[], isInts_nil _ W⟩
    · simp [Value.cells] at hcs
      obtain ⟨rfl, rfl, rfl⟩ := hcs
      exact ⟨_, isInts_some hl hm (by simpa using hz) hcell hwz⟩
  clear hA0 hval0
  refine (walk a0 len0 cap0 z0 W w0).mono fun e W' ⟨he, bel⟩ => ?_
  subst he
  exact ⟨_, rfl, _, _, _, [], _, [], hW', trodAll_mk1 (shut_bool Try.underlying4 _), (trodAll_cons_mk (Below.trod laidOut (by kernel_rfl) (of_decide_eq_true (by kernel_rfl)) k0 bel lt0) trodAll_mk0), rfl, bel.frame _, fun h => by cases h⟩

theorem over : Rows.fnPoolsRow.holds Try.pinned (OpenSpec.ofChange Rows.fnPoolsSpec) :=
  OpenClaim.holds_of_wide 3 Try.f3 rfl rfl rfl rfl rfl rfl rfl ⟨rfl, rfl, rfl, rfl, rfl⟩ rfl rfl rfl rfl rfl (by kernel_rfl) Try.func3 (by kernel_rfl)
    (of_decide_eq_true (by kernel_rfl)) (by unfold Func.isWrapper; first | (rw [if_pos (by decide +kernel)]; kernel_rfl) | (rw [if_neg (by decide +kernel)]; exact ⟨rfl, rfl⟩))
    (fun os started H enc _ => lifted os started H enc)

/-- The statement. -/
theorem proved : Rows.FnPoolsSaid := over
end Go.Proofs.Ytgnopkemcgbedaa.fnPools
