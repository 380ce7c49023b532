/- FnTrust holds: more faults never make a trusted bound smaller, without faults it is the common one, and with the fewest faults there is one; at every list of bytes. -/
import Derived.Test.YteeljlpbijmhlaaSeF
import Derived.Test.YteeljlpbijmhlaaSeBig
import Derived.Test.YteeljlpbijmhlaaSt0
import Derived.OpenShut
import Derived.ShutString
import Derived.ChangeOld
import Derived.WalkLawsBesides
import Derived.Lib.SmallJoins
import Derived.Deep.RegionHeld3
namespace Go.Proofs.Yteeljlpbijmhlaa.fnTrust
open Go.ChangeShapes Go.WideShapes Go.ChangeAt Go.RowKit
open Go.ChangeMaps (open_string shut_string)
set_option linter.unusedVariables false
set_option linter.unusedSimpArgs false

-- a new box behind the world W with the values X Y: names W' and G, the box fact P, Below H
set_option maxRecDepth 100000 in
set_option maxHeartbeats 16000000 in
theorem walk (A : Option Addr) (n c : Nat) (zs : List Int) (w : World) (hI : IsInts .u8 w A n zs) :
    Calls Try.prog 15 #[.slice A n c] w fun e w' => e = .returned (.bool true) ∧ Below w.heap.size w w' := by
  have CB := Lib.hid (fun W => rBig_any A n c W hI.2.1)
  by_cases hbig : (65536 : Int) < (n : Int)
  · rw [decide_eq_true hbig] at CB
    clear hI
    go_enter Try.func15, Try.ntmps15
    go_wp2_with fail
    refine (CB.out _).mono ?_
    rintro e w1 ⟨rfl, rfl⟩
    go_wp2_with fail
    go_ret
    exact ⟨rfl, Below.refl _ _⟩
  · rw [decide_eq_false hbig] at CB
    have HC := Lib.hid (Code_.of hI (by omega))
    have D1 := Lib.hid (drawT_any c HC.out)
    clear hI hbig
    go_enter Try.func15, Try.ntmps15
    go_wp2_with fail
    refine (CB.out _).mono ?_
    rintro e w1 ⟨rfl, rfl⟩
    clear CB
    go_wp2_with fail
    refine D1.out.mono ?_
    rintro e w1 ⟨g1, c1, q1, L1, z1, rfl, hq1, hqc1, hz1, hz2, hL1, hb⟩
    have HB1 := Lib.hid hb
    have HL1 := Lib.hid hL1
    clear hb D1 hL1
    obtain ⟨R0, R1, x, hA⟩ := truA_ex L1 z1
    have HA := Lib.hid hA
    have C1 := Lib.hid (truI_any c1 HL1.out (by omega) z1 R0 R1 x hA)
    clear hA
    go_wp2_with fail
    refine C1.out.mono ?_
    rintro e w2 ⟨rfl, hb⟩
    have HB2 := Lib.hid (HB1.out.trans (hb.mono HB1.out.size))
    have HL2 := Lib.hid (HL1.out.below hb HL1.out.low)
    clear hb HB1 HL1 C1
    have P5 := Lib.hid (BoxB.new w2 R0 R1)
    have HB3 := Lib.hid (HB2.out.trans ((below1q w2 (.cells #[.int .i64 R0, .int .i64 R1] 46)).mono HB2.out.size))
    have LHB3 := Lib.hid (HL2.out.below (below1q w2 (.cells #[.int .i64 R0, .int .i64 R1] 46)) HL2.out.low)
    obtain ⟨W3, hW3⟩ : ∃ W, w2.alloc (.cells #[.int .i64 R0, .int .i64 R1] 46) = W := ⟨_, rfl⟩
    obtain ⟨g5, hg5⟩ : ∃ g, w2.heap.size = g := ⟨_, rfl⟩
    rw [hW3, hg5] at P5
    rw [hW3] at HB3 LHB3
    have HW3 := Lib.hid hW3
    have HG5 := Lib.hid hg5
    have C2 := Lib.hid (truS_any c1 LHB3.out (by omega) z1 R0 R1 x HA.out)
    clear hW3 hg5 HB2 HL2
    go_wp2_with fail
    simp only [HW3.out, HG5.out]
    refine C2.out.mono ?_
    rintro e w4 ⟨rfl, hb⟩
    have HB4 := Lib.hid (HB3.out.trans (hb.mono HB3.out.size))
    have HL4 := Lib.hid (LHB3.out.below hb LHB3.out.low)
    have P5b := Lib.hid (P5.out.all hb)
    clear hb HB3 LHB3 C2 P5 HW3 HG5
    have P7 := Lib.hid (BoxB.new w4 R0 R1)
    have HB5 := Lib.hid (HB4.out.trans ((below1q w4 (.cells #[.int .i64 R0, .int .i64 R1] 46)).mono HB4.out.size))
    have LHB5 := Lib.hid (HL4.out.below (below1q w4 (.cells #[.int .i64 R0, .int .i64 R1] 46)) HL4.out.low)
    have Q5 := Lib.hid (P5b.out.all (below1q w4 (.cells #[.int .i64 R0, .int .i64 R1] 46)))
    obtain ⟨W5, hW5⟩ : ∃ W, w4.alloc (.cells #[.int .i64 R0, .int .i64 R1] 46) = W := ⟨_, rfl⟩
    obtain ⟨g7, hg7⟩ : ∃ g, w4.heap.size = g := ⟨_, rfl⟩
    rw [hW5, hg7] at P7
    rw [hW5] at HB5 LHB5 Q5
    obtain ⟨S0, S1, y, hS⟩ := truA_ex L1 (z1 + 1)
    have HS := Lib.hid hS
    have C3 := Lib.hid (truI_any c1 LHB5.out (by omega) (z1 + 1) S0 S1 y hS)
    have hl5 := P5b.out.lt
    have d0 := P5b.out.c0
    have d1 := P5b.out.c1
    have hxx : (x != x) = false := by simp
    have h00 : (R0 != R0) = false := by simp
    have h11 : (R1 != R1) = false := by simp
    have h01 : (R0 == R0) = true := by simp
    have h02 : (R1 == R1) = true := by simp
    have hg75 : g7 ≠ g5 := by have := P5b.out.lt; omega
    have HW5 := Lib.hid hW5
    have HG7 := Lib.hid hg7
    clear hW5 hg7 HB4 HL4 hS
    go_wp2_with fail
    simp only [HW5.out, HG7.out]
    refine C3.out.mono ?_
    rintro e w6 ⟨rfl, hb⟩
    have HB6 := Lib.hid (HB5.out.trans (hb.mono HB5.out.size))
    have Q5b := Lib.hid (Q5.out.all hb)
    have HBX := Lib.hid (HB6.out.trans ((below1q w6 (.cells #[.int .i64 S0, .int .i64 S1] 46)).mono HB6.out.size))
    clear hb HB5 LHB5 C3 Q5 P7 HW5 HG7 d0 d1 hl5 hg75 P5b h00 h11 h01 h02 hxx HB6
    cases x with
    | false =>
      clear HA HS
      have D2 := Lib.hid (drawF_any c (HC.out.on HBX.out))
      go_wp2_with fail
      refine D2.out.mono ?_
      rintro e w7 ⟨g2, c2, q2, L2, rfl, hq2, hqc2, hL2, hb⟩
      have HB7 := Lib.hid (HBX.out.trans (hb.mono HBX.out.size))
      have HL := Lib.hid hL2
      clear hb D2 HBX hL2 Q5b
      obtain ⟨m, v, hF⟩ := fewA_ex L2
      have HF := Lib.hid hF
      have C1 := Lib.hid (fewI_any c2 HL.out (by omega) m v hF)
      have hmi := few_in hF
      have hmm : (m != m) = false := by simp
      have hvv : (v != v) = false := by simp
      clear hF
      go_wp2_with fail
      refine C1.out.mono ?_
      rintro e w8 ⟨rfl, hb⟩
      have HB8 := Lib.hid (HB7.out.trans (hb.mono HB7.out.size))
      have HL8 := Lib.hid (HL.out.below hb HL.out.low)
      clear hb HB7 HL C1
      have C2 := Lib.hid (fewS_any c2 HL8.out (by omega) m v HF.out)
      go_wp2_with fail
      refine C2.out.mono ?_
      rintro e w9 ⟨rfl, hb⟩
      have HB9 := Lib.hid (HB8.out.trans (hb.mono HB8.out.size))
      have HL9 := Lib.hid (HL8.out.below hb HL8.out.low)
      clear hb HB8 HL8 C2
      cases v with
      | false =>
        clear HF HL9
        -- the drawn bounds whose common one is asked
        have D3 := Lib.hid (drawC_any c (HC.out.on HB9.out))
        clear HC
        go_wp2_with fail
        refine D3.out.mono ?_
        rintro e w20 ⟨g3, c3, q3, L3, rfl, hq3, hqc3, hL3, hb⟩
        have HB20 := Lib.hid (HB9.out.trans (hb.mono HB9.out.size))
        have HL := Lib.hid hL3
        clear hb D3 HB9 hL3
        obtain ⟨U0, U1, u, hU⟩ := comA_ex L3
        have HU := Lib.hid hU
        have C1 := Lib.hid (comI_any c3 hqc3 HL.out (by omega) U0 U1 u hU)
        clear hU
        go_wp2_with fail
        refine C1.out.mono ?_
        rintro e w21 ⟨rfl, hb⟩
        have HB21 := Lib.hid (HB20.out.trans (hb.mono HB20.out.size))
        have HL21 := Lib.hid (HL.out.below hb HL.out.low)
        clear hb HB20 HL C1
        have PA := Lib.hid (BoxB.new w21 U0 U1)
        have HB22 := Lib.hid (HB21.out.trans ((below1q w21 (.cells #[.int .i64 U0, .int .i64 U1] 46)).mono HB21.out.size))
        have HL22 := Lib.hid (HL21.out.below (below1q w21 (.cells #[.int .i64 U0, .int .i64 U1] 46)) HL21.out.low)
        obtain ⟨W22, hW22⟩ : ∃ W, w21.alloc (.cells #[.int .i64 U0, .int .i64 U1] 46) = W := ⟨_, rfl⟩
        obtain ⟨ga, hga⟩ : ∃ g, w21.heap.size = g := ⟨_, rfl⟩
        rw [hW22, hga] at PA
        rw [hW22] at HB22 HL22
        have HW22 := Lib.hid hW22
        have HGA := Lib.hid hga
        have C2 := Lib.hid (comS_any c3 HL22.out (by omega) U0 U1 u HU.out)
        clear hW22 hga HB21 HL21
        go_wp2_with fail
        simp only [HW22.out, HGA.out]
        refine C2.out.mono ?_
        rintro e w23 ⟨rfl, hb⟩
        have HB23 := Lib.hid (HB22.out.trans (hb.mono HB22.out.size))
        have HL23 := Lib.hid (HL22.out.below hb HL22.out.low)
        have PA3 := Lib.hid (PA.out.all hb)
        clear hb HB22 HL22 C2 PA HW22 HGA
        have HB24 := Lib.hid (HB23.out.trans ((below1q w23 (.cells #[.int .i64 U0, .int .i64 U1] 46)).mono HB23.out.size))
        have HL24 := Lib.hid (HL23.out.below (below1q w23 (.cells #[.int .i64 U0, .int .i64 U1] 46)) HL23.out.low)
        have QA := Lib.hid (PA3.out.all (below1q w23 (.cells #[.int .i64 U0, .int .i64 U1] 46)))
        have C3 := Lib.hid (truI_any c3 HL24.out (by omega) 0 U0 U1 u (com_tru HU.out))
        have d0 := PA3.out.c0
        have d1 := PA3.out.c1
        have hla := PA3.out.lt
        have huu : (u != u) = false := by simp
        have h00 : (U0 != U0) = false := by simp
        have h11 : (U1 != U1) = false := by simp
        clear HB23 HL23 HL24 PA3 HU
        go_wp2_with fail
        refine C3.out.mono ?_
        rintro e w25 ⟨rfl, hb⟩
        have HB25 := Lib.hid (HB24.out.trans (hb.mono HB24.out.size))
        have QA5 := Lib.hid (QA.out.all hb)
        clear hb HB24 C3 QA d0 d1 hla
        have HB26 := Lib.hid (HB25.out.trans ((below1q w25 (.cells #[.int .i64 U0, .int .i64 U1] 46)).mono HB25.out.size))
        have e0 := QA5.out.c0
        have e1 := QA5.out.c1
        have hle := QA5.out.lt
        have huu2 : (u == u) = true := by simp
        have h002 : (U0 == U0) = true := by simp
        have h112 : (U1 == U1) = true := by simp
        clear HB25
        go_wp2_with fail
        go_ret
        exact ⟨rfl, HB26.out⟩
      | true =>
        obtain ⟨V0, V1, y1, hT1⟩ := truA_ex L2 m
        obtain rfl := few_true HF.out hT1
        have C3 := Lib.hid (truI_any c2 HL9.out (by omega) m V0 V1 true hT1)
        clear hT1
        go_wp2_with fail
        refine C3.out.mono ?_
        rintro e w10 ⟨rfl, hb⟩
        have HB10 := Lib.hid ((HB9.out.trans (hb.mono HB9.out.size)).trans ((below1q w10 (.cells #[.int .i64 V0, .int .i64 V1] 46)).mono (Nat.le_trans HB9.out.size hb.size)))
        have HL10 := Lib.hid ((HL9.out.below hb HL9.out.low).below (below1q w10 (.cells #[.int .i64 V0, .int .i64 V1] 46)) (Nat.le_trans HL9.out.low hb.size))
        clear hb HB9 HL9 C3
        obtain ⟨X0, X1, y2, hT2⟩ := truA_ex L2 (m - 1)
        obtain rfl := few_false HF.out hT2
        have C4 := Lib.hid (truI_any c2 HL10.out (by omega) (m - 1) X0 X1 false hT2)
        clear hT2 HF
        go_wp2_with fail
        refine C4.out.mono ?_
        rintro e w12 ⟨rfl, hb⟩
        have HB12 := Lib.hid ((HB10.out.trans (hb.mono HB10.out.size)).trans ((below1q w12 (.cells #[.int .i64 X0, .int .i64 X1] 46)).mono (Nat.le_trans HB10.out.size hb.size)))
        clear hb HB10 HL10 C4
        -- the drawn bounds whose common one is asked
        have D3 := Lib.hid (drawC_any c (HC.out.on HB12.out))
        clear HC
        go_wp2_with fail
        refine D3.out.mono ?_
        rintro e w20 ⟨g3, c3, q3, L3, rfl, hq3, hqc3, hL3, hb⟩
        have HB20 := Lib.hid (HB12.out.trans (hb.mono HB12.out.size))
        have HL := Lib.hid hL3
        clear hb D3 HB12 hL3
        obtain ⟨U0, U1, u, hU⟩ := comA_ex L3
        have HU := Lib.hid hU
        have C1 := Lib.hid (comI_any c3 hqc3 HL.out (by omega) U0 U1 u hU)
        clear hU
        go_wp2_with fail
        refine C1.out.mono ?_
        rintro e w21 ⟨rfl, hb⟩
        have HB21 := Lib.hid (HB20.out.trans (hb.mono HB20.out.size))
        have HL21 := Lib.hid (HL.out.below hb HL.out.low)
        clear hb HB20 HL C1
        have PA := Lib.hid (BoxB.new w21 U0 U1)
        have HB22 := Lib.hid (HB21.out.trans ((below1q w21 (.cells #[.int .i64 U0, .int .i64 U1] 46)).mono HB21.out.size))
        have HL22 := Lib.hid (HL21.out.below (below1q w21 (.cells #[.int .i64 U0, .int .i64 U1] 46)) HL21.out.low)
        obtain ⟨W22, hW22⟩ : ∃ W, w21.alloc (.cells #[.int .i64 U0, .int .i64 U1] 46) = W := ⟨_, rfl⟩
        obtain ⟨ga, hga⟩ : ∃ g, w21.heap.size = g := ⟨_, rfl⟩
        rw [hW22, hga] at PA
        rw [hW22] at HB22 HL22
        have HW22 := Lib.hid hW22
        have HGA := Lib.hid hga
        have C2 := Lib.hid (comS_any c3 HL22.out (by omega) U0 U1 u HU.out)
        clear hW22 hga HB21 HL21
        go_wp2_with fail
        simp only [HW22.out, HGA.out]
        refine C2.out.mono ?_
        rintro e w23 ⟨rfl, hb⟩
        have HB23 := Lib.hid (HB22.out.trans (hb.mono HB22.out.size))
        have HL23 := Lib.hid (HL22.out.below hb HL22.out.low)
        have PA3 := Lib.hid (PA.out.all hb)
        clear hb HB22 HL22 C2 PA HW22 HGA
        have HB24 := Lib.hid (HB23.out.trans ((below1q w23 (.cells #[.int .i64 U0, .int .i64 U1] 46)).mono HB23.out.size))
        have HL24 := Lib.hid (HL23.out.below (below1q w23 (.cells #[.int .i64 U0, .int .i64 U1] 46)) HL23.out.low)
        have QA := Lib.hid (PA3.out.all (below1q w23 (.cells #[.int .i64 U0, .int .i64 U1] 46)))
        have C3 := Lib.hid (truI_any c3 HL24.out (by omega) 0 U0 U1 u (com_tru HU.out))
        have d0 := PA3.out.c0
        have d1 := PA3.out.c1
        have hla := PA3.out.lt
        have huu : (u != u) = false := by simp
        have h00 : (U0 != U0) = false := by simp
        have h11 : (U1 != U1) = false := by simp
        clear HB23 HL23 HL24 PA3 HU
        go_wp2_with fail
        refine C3.out.mono ?_
        rintro e w25 ⟨rfl, hb⟩
        have HB25 := Lib.hid (HB24.out.trans (hb.mono HB24.out.size))
        have QA5 := Lib.hid (QA.out.all hb)
        clear hb HB24 C3 QA d0 d1 hla
        have HB26 := Lib.hid (HB25.out.trans ((below1q w25 (.cells #[.int .i64 U0, .int .i64 U1] 46)).mono HB25.out.size))
        have e0 := QA5.out.c0
        have e1 := QA5.out.c1
        have hle := QA5.out.lt
        have huu2 : (u == u) = true := by simp
        have h002 : (U0 == U0) = true := by simp
        have h112 : (U1 == U1) = true := by simp
        clear HB25
        go_wp2_with fail
        go_ret
        exact ⟨rfl, HB26.out⟩
    | true =>
      cases y with
      | false =>
        clear HA HS
        have D2 := Lib.hid (drawF_any c (HC.out.on HBX.out))
        go_wp2_with fail
        refine D2.out.mono ?_
        rintro e w7 ⟨g2, c2, q2, L2, rfl, hq2, hqc2, hL2, hb⟩
        have HB7 := Lib.hid (HBX.out.trans (hb.mono HBX.out.size))
        have HL := Lib.hid hL2
        clear hb D2 HBX hL2 Q5b
        obtain ⟨m, v, hF⟩ := fewA_ex L2
        have HF := Lib.hid hF
        have C1 := Lib.hid (fewI_any c2 HL.out (by omega) m v hF)
        have hmi := few_in hF
        have hmm : (m != m) = false := by simp
        have hvv : (v != v) = false := by simp
        clear hF
        go_wp2_with fail
        refine C1.out.mono ?_
        rintro e w8 ⟨rfl, hb⟩
        have HB8 := Lib.hid (HB7.out.trans (hb.mono HB7.out.size))
        have HL8 := Lib.hid (HL.out.below hb HL.out.low)
        clear hb HB7 HL C1
        have C2 := Lib.hid (fewS_any c2 HL8.out (by omega) m v HF.out)
        go_wp2_with fail
        refine C2.out.mono ?_
        rintro e w9 ⟨rfl, hb⟩
        have HB9 := Lib.hid (HB8.out.trans (hb.mono HB8.out.size))
        have HL9 := Lib.hid (HL8.out.below hb HL8.out.low)
        clear hb HB8 HL8 C2
        cases v with
        | false =>
          clear HF HL9
          -- the drawn bounds whose common one is asked
          have D3 := Lib.hid (drawC_any c (HC.out.on HB9.out))
          clear HC
          go_wp2_with fail
          refine D3.out.mono ?_
          rintro e w20 ⟨g3, c3, q3, L3, rfl, hq3, hqc3, hL3, hb⟩
          have HB20 := Lib.hid (HB9.out.trans (hb.mono HB9.out.size))
          have HL := Lib.hid hL3
          clear hb D3 HB9 hL3
          obtain ⟨U0, U1, u, hU⟩ := comA_ex L3
          have HU := Lib.hid hU
          have C1 := Lib.hid (comI_any c3 hqc3 HL.out (by omega) U0 U1 u hU)
          clear hU
          go_wp2_with fail
          refine C1.out.mono ?_
          rintro e w21 ⟨rfl, hb⟩
          have HB21 := Lib.hid (HB20.out.trans (hb.mono HB20.out.size))
          have HL21 := Lib.hid (HL.out.below hb HL.out.low)
          clear hb HB20 HL C1
          have PA := Lib.hid (BoxB.new w21 U0 U1)
          have HB22 := Lib.hid (HB21.out.trans ((below1q w21 (.cells #[.int .i64 U0, .int .i64 U1] 46)).mono HB21.out.size))
          have HL22 := Lib.hid (HL21.out.below (below1q w21 (.cells #[.int .i64 U0, .int .i64 U1] 46)) HL21.out.low)
          obtain ⟨W22, hW22⟩ : ∃ W, w21.alloc (.cells #[.int .i64 U0, .int .i64 U1] 46) = W := ⟨_, rfl⟩
          obtain ⟨ga, hga⟩ : ∃ g, w21.heap.size = g := ⟨_, rfl⟩
          rw [hW22, hga] at PA
          rw [hW22] at HB22 HL22
          have HW22 := Lib.hid hW22
          have HGA := Lib.hid hga
          have C2 := Lib.hid (comS_any c3 HL22.out (by omega) U0 U1 u HU.out)
          clear hW22 hga HB21 HL21
          go_wp2_with fail
          simp only [HW22.out, HGA.out]
          refine C2.out.mono ?_
          rintro e w23 ⟨rfl, hb⟩
          have HB23 := Lib.hid (HB22.out.trans (hb.mono HB22.out.size))
          have HL23 := Lib.hid (HL22.out.below hb HL22.out.low)
          have PA3 := Lib.hid (PA.out.all hb)
          clear hb HB22 HL22 C2 PA HW22 HGA
          have HB24 := Lib.hid (HB23.out.trans ((below1q w23 (.cells #[.int .i64 U0, .int .i64 U1] 46)).mono HB23.out.size))
          have HL24 := Lib.hid (HL23.out.below (below1q w23 (.cells #[.int .i64 U0, .int .i64 U1] 46)) HL23.out.low)
          have QA := Lib.hid (PA3.out.all (below1q w23 (.cells #[.int .i64 U0, .int .i64 U1] 46)))
          have C3 := Lib.hid (truI_any c3 HL24.out (by omega) 0 U0 U1 u (com_tru HU.out))
          have d0 := PA3.out.c0
          have d1 := PA3.out.c1
          have hla := PA3.out.lt
          have huu : (u != u) = false := by simp
          have h00 : (U0 != U0) = false := by simp
          have h11 : (U1 != U1) = false := by simp
          clear HB23 HL23 HL24 PA3 HU
          go_wp2_with fail
          refine C3.out.mono ?_
          rintro e w25 ⟨rfl, hb⟩
          have HB25 := Lib.hid (HB24.out.trans (hb.mono HB24.out.size))
          have QA5 := Lib.hid (QA.out.all hb)
          clear hb HB24 C3 QA d0 d1 hla
          have HB26 := Lib.hid (HB25.out.trans ((below1q w25 (.cells #[.int .i64 U0, .int .i64 U1] 46)).mono HB25.out.size))
          have e0 := QA5.out.c0
          have e1 := QA5.out.c1
          have hle := QA5.out.lt
          have huu2 : (u == u) = true := by simp
          have h002 : (U0 == U0) = true := by simp
          have h112 : (U1 == U1) = true := by simp
          clear HB25
          go_wp2_with fail
          go_ret
          exact ⟨rfl, HB26.out⟩
        | true =>
          obtain ⟨V0, V1, y1, hT1⟩ := truA_ex L2 m
          obtain rfl := few_true HF.out hT1
          have C3 := Lib.hid (truI_any c2 HL9.out (by omega) m V0 V1 true hT1)
          clear hT1
          go_wp2_with fail
          refine C3.out.mono ?_
          rintro e w10 ⟨rfl, hb⟩
          have HB10 := Lib.hid ((HB9.out.trans (hb.mono HB9.out.size)).trans ((below1q w10 (.cells #[.int .i64 V0, .int .i64 V1] 46)).mono (Nat.le_trans HB9.out.size hb.size)))
          have HL10 := Lib.hid ((HL9.out.below hb HL9.out.low).below (below1q w10 (.cells #[.int .i64 V0, .int .i64 V1] 46)) (Nat.le_trans HL9.out.low hb.size))
          clear hb HB9 HL9 C3
          obtain ⟨X0, X1, y2, hT2⟩ := truA_ex L2 (m - 1)
          obtain rfl := few_false HF.out hT2
          have C4 := Lib.hid (truI_any c2 HL10.out (by omega) (m - 1) X0 X1 false hT2)
          clear hT2 HF
          go_wp2_with fail
          refine C4.out.mono ?_
          rintro e w12 ⟨rfl, hb⟩
          have HB12 := Lib.hid ((HB10.out.trans (hb.mono HB10.out.size)).trans ((below1q w12 (.cells #[.int .i64 X0, .int .i64 X1] 46)).mono (Nat.le_trans HB10.out.size hb.size)))
          clear hb HB10 HL10 C4
          -- the drawn bounds whose common one is asked
          have D3 := Lib.hid (drawC_any c (HC.out.on HB12.out))
          clear HC
          go_wp2_with fail
          refine D3.out.mono ?_
          rintro e w20 ⟨g3, c3, q3, L3, rfl, hq3, hqc3, hL3, hb⟩
          have HB20 := Lib.hid (HB12.out.trans (hb.mono HB12.out.size))
          have HL := Lib.hid hL3
          clear hb D3 HB12 hL3
          obtain ⟨U0, U1, u, hU⟩ := comA_ex L3
          have HU := Lib.hid hU
          have C1 := Lib.hid (comI_any c3 hqc3 HL.out (by omega) U0 U1 u hU)
          clear hU
          go_wp2_with fail
          refine C1.out.mono ?_
          rintro e w21 ⟨rfl, hb⟩
          have HB21 := Lib.hid (HB20.out.trans (hb.mono HB20.out.size))
          have HL21 := Lib.hid (HL.out.below hb HL.out.low)
          clear hb HB20 HL C1
          have PA := Lib.hid (BoxB.new w21 U0 U1)
          have HB22 := Lib.hid (HB21.out.trans ((below1q w21 (.cells #[.int .i64 U0, .int .i64 U1] 46)).mono HB21.out.size))
          have HL22 := Lib.hid (HL21.out.below (below1q w21 (.cells #[.int .i64 U0, .int .i64 U1] 46)) HL21.out.low)
          obtain ⟨W22, hW22⟩ : ∃ W, w21.alloc (.cells #[.int .i64 U0, .int .i64 U1] 46) = W := ⟨_, rfl⟩
          obtain ⟨ga, hga⟩ : ∃ g, w21.heap.size = g := ⟨_, rfl⟩
          rw [hW22, hga] at PA
          rw [hW22] at HB22 HL22
          have HW22 := Lib.hid hW22
          have HGA := Lib.hid hga
          have C2 := Lib.hid (comS_any c3 HL22.out (by omega) U0 U1 u HU.out)
          clear hW22 hga HB21 HL21
          go_wp2_with fail
          simp only [HW22.out, HGA.out]
          refine C2.out.mono ?_
          rintro e w23 ⟨rfl, hb⟩
          have HB23 := Lib.hid (HB22.out.trans (hb.mono HB22.out.size))
          have HL23 := Lib.hid (HL22.out.below hb HL22.out.low)
          have PA3 := Lib.hid (PA.out.all hb)
          clear hb HB22 HL22 C2 PA HW22 HGA
          have HB24 := Lib.hid (HB23.out.trans ((below1q w23 (.cells #[.int .i64 U0, .int .i64 U1] 46)).mono HB23.out.size))
          have HL24 := Lib.hid (HL23.out.below (below1q w23 (.cells #[.int .i64 U0, .int .i64 U1] 46)) HL23.out.low)
          have QA := Lib.hid (PA3.out.all (below1q w23 (.cells #[.int .i64 U0, .int .i64 U1] 46)))
          have C3 := Lib.hid (truI_any c3 HL24.out (by omega) 0 U0 U1 u (com_tru HU.out))
          have d0 := PA3.out.c0
          have d1 := PA3.out.c1
          have hla := PA3.out.lt
          have huu : (u != u) = false := by simp
          have h00 : (U0 != U0) = false := by simp
          have h11 : (U1 != U1) = false := by simp
          clear HB23 HL23 HL24 PA3 HU
          go_wp2_with fail
          refine C3.out.mono ?_
          rintro e w25 ⟨rfl, hb⟩
          have HB25 := Lib.hid (HB24.out.trans (hb.mono HB24.out.size))
          have QA5 := Lib.hid (QA.out.all hb)
          clear hb HB24 C3 QA d0 d1 hla
          have HB26 := Lib.hid (HB25.out.trans ((below1q w25 (.cells #[.int .i64 U0, .int .i64 U1] 46)).mono HB25.out.size))
          have e0 := QA5.out.c0
          have e1 := QA5.out.c1
          have hle := QA5.out.lt
          have huu2 : (u == u) = true := by simp
          have h002 : (U0 == U0) = true := by simp
          have h112 : (U1 == U1) = true := by simp
          clear HB25
          go_wp2_with fail
          go_ret
          exact ⟨rfl, HB26.out⟩
      | true =>
        obtain ⟨hw1, hw2⟩ := tru_wider HA.out HS.out
        have hw3 : ¬ R0 < S0 := by omega
        have hw4 : ¬ S1 < R1 := by omega
        have d0 := Q5b.out.c0
        have d1 := Q5b.out.c1
        have hl5 := Q5b.out.lt
        clear HA HS hw1 hw2
        have D2 := Lib.hid (drawF_any c (HC.out.on HBX.out))
        go_wp2_with fail
        refine D2.out.mono ?_
        rintro e w7 ⟨g2, c2, q2, L2, rfl, hq2, hqc2, hL2, hb⟩
        have HB7 := Lib.hid (HBX.out.trans (hb.mono HBX.out.size))
        have HL := Lib.hid hL2
        clear hb D2 HBX hL2 Q5b
        obtain ⟨m, v, hF⟩ := fewA_ex L2
        have HF := Lib.hid hF
        have C1 := Lib.hid (fewI_any c2 HL.out (by omega) m v hF)
        have hmi := few_in hF
        have hmm : (m != m) = false := by simp
        have hvv : (v != v) = false := by simp
        clear hF
        go_wp2_with fail
        refine C1.out.mono ?_
        rintro e w8 ⟨rfl, hb⟩
        have HB8 := Lib.hid (HB7.out.trans (hb.mono HB7.out.size))
        have HL8 := Lib.hid (HL.out.below hb HL.out.low)
        clear hb HB7 HL C1
        have C2 := Lib.hid (fewS_any c2 HL8.out (by omega) m v HF.out)
        go_wp2_with fail
        refine C2.out.mono ?_
        rintro e w9 ⟨rfl, hb⟩
        have HB9 := Lib.hid (HB8.out.trans (hb.mono HB8.out.size))
        have HL9 := Lib.hid (HL8.out.below hb HL8.out.low)
        clear hb HB8 HL8 C2
        cases v with
        | false =>
          clear HF HL9
          -- the drawn bounds whose common one is asked
          have D3 := Lib.hid (drawC_any c (HC.out.on HB9.out))
          clear HC
          go_wp2_with fail
          refine D3.out.mono ?_
          rintro e w20 ⟨g3, c3, q3, L3, rfl, hq3, hqc3, hL3, hb⟩
          have HB20 := Lib.hid (HB9.out.trans (hb.mono HB9.out.size))
          have HL := Lib.hid hL3
          clear hb D3 HB9 hL3
          obtain ⟨U0, U1, u, hU⟩ := comA_ex L3
          have HU := Lib.hid hU
          have C1 := Lib.hid (comI_any c3 hqc3 HL.out (by omega) U0 U1 u hU)
          clear hU
          go_wp2_with fail
          refine C1.out.mono ?_
          rintro e w21 ⟨rfl, hb⟩
          have HB21 := Lib.hid (HB20.out.trans (hb.mono HB20.out.size))
          have HL21 := Lib.hid (HL.out.below hb HL.out.low)
          clear hb HB20 HL C1
          have PA := Lib.hid (BoxB.new w21 U0 U1)
          have HB22 := Lib.hid (HB21.out.trans ((below1q w21 (.cells #[.int .i64 U0, .int .i64 U1] 46)).mono HB21.out.size))
          have HL22 := Lib.hid (HL21.out.below (below1q w21 (.cells #[.int .i64 U0, .int .i64 U1] 46)) HL21.out.low)
          obtain ⟨W22, hW22⟩ : ∃ W, w21.alloc (.cells #[.int .i64 U0, .int .i64 U1] 46) = W := ⟨_, rfl⟩
          obtain ⟨ga, hga⟩ : ∃ g, w21.heap.size = g := ⟨_, rfl⟩
          rw [hW22, hga] at PA
          rw [hW22] at HB22 HL22
          have HW22 := Lib.hid hW22
          have HGA := Lib.hid hga
          have C2 := Lib.hid (comS_any c3 HL22.out (by omega) U0 U1 u HU.out)
          clear hW22 hga HB21 HL21
          go_wp2_with fail
          simp only [HW22.out, HGA.out]
          refine C2.out.mono ?_
          rintro e w23 ⟨rfl, hb⟩
          have HB23 := Lib.hid (HB22.out.trans (hb.mono HB22.out.size))
          have HL23 := Lib.hid (HL22.out.below hb HL22.out.low)
          have PA3 := Lib.hid (PA.out.all hb)
          clear hb HB22 HL22 C2 PA HW22 HGA
          have HB24 := Lib.hid (HB23.out.trans ((below1q w23 (.cells #[.int .i64 U0, .int .i64 U1] 46)).mono HB23.out.size))
          have HL24 := Lib.hid (HL23.out.below (below1q w23 (.cells #[.int .i64 U0, .int .i64 U1] 46)) HL23.out.low)
          have QA := Lib.hid (PA3.out.all (below1q w23 (.cells #[.int .i64 U0, .int .i64 U1] 46)))
          have C3 := Lib.hid (truI_any c3 HL24.out (by omega) 0 U0 U1 u (com_tru HU.out))
          have d0 := PA3.out.c0
          have d1 := PA3.out.c1
          have hla := PA3.out.lt
          have huu : (u != u) = false := by simp
          have h00 : (U0 != U0) = false := by simp
          have h11 : (U1 != U1) = false := by simp
          clear HB23 HL23 HL24 PA3 HU
          go_wp2_with fail
          refine C3.out.mono ?_
          rintro e w25 ⟨rfl, hb⟩
          have HB25 := Lib.hid (HB24.out.trans (hb.mono HB24.out.size))
          have QA5 := Lib.hid (QA.out.all hb)
          clear hb HB24 C3 QA d0 d1 hla
          have HB26 := Lib.hid (HB25.out.trans ((below1q w25 (.cells #[.int .i64 U0, .int .i64 U1] 46)).mono HB25.out.size))
          have e0 := QA5.out.c0
          have e1 := QA5.out.c1
          have hle := QA5.out.lt
          have huu2 : (u == u) = true := by simp
          have h002 : (U0 == U0) = true := by simp
          have h112 : (U1 == U1) = true := by simp
          clear HB25
          go_wp2_with fail
          go_ret
          exact ⟨rfl, HB26.out⟩
        | true =>
          obtain ⟨V0, V1, y1, hT1⟩ := truA_ex L2 m
          obtain rfl := few_true HF.out hT1
          have C3 := Lib.hid (truI_any c2 HL9.out (by omega) m V0 V1 true hT1)
          clear hT1
          go_wp2_with fail
          refine C3.out.mono ?_
          rintro e w10 ⟨rfl, hb⟩
          have HB10 := Lib.hid ((HB9.out.trans (hb.mono HB9.out.size)).trans ((below1q w10 (.cells #[.int .i64 V0, .int .i64 V1] 46)).mono (Nat.le_trans HB9.out.size hb.size)))
          have HL10 := Lib.hid ((HL9.out.below hb HL9.out.low).below (below1q w10 (.cells #[.int .i64 V0, .int .i64 V1] 46)) (Nat.le_trans HL9.out.low hb.size))
          clear hb HB9 HL9 C3
          obtain ⟨X0, X1, y2, hT2⟩ := truA_ex L2 (m - 1)
          obtain rfl := few_false HF.out hT2
          have C4 := Lib.hid (truI_any c2 HL10.out (by omega) (m - 1) X0 X1 false hT2)
          clear hT2 HF
          go_wp2_with fail
          refine C4.out.mono ?_
          rintro e w12 ⟨rfl, hb⟩
          have HB12 := Lib.hid ((HB10.out.trans (hb.mono HB10.out.size)).trans ((below1q w12 (.cells #[.int .i64 X0, .int .i64 X1] 46)).mono (Nat.le_trans HB10.out.size hb.size)))
          clear hb HB10 HL10 C4
          -- the drawn bounds whose common one is asked
          have D3 := Lib.hid (drawC_any c (HC.out.on HB12.out))
          clear HC
          go_wp2_with fail
          refine D3.out.mono ?_
          rintro e w20 ⟨g3, c3, q3, L3, rfl, hq3, hqc3, hL3, hb⟩
          have HB20 := Lib.hid (HB12.out.trans (hb.mono HB12.out.size))
          have HL := Lib.hid hL3
          clear hb D3 HB12 hL3
          obtain ⟨U0, U1, u, hU⟩ := comA_ex L3
          have HU := Lib.hid hU
          have C1 := Lib.hid (comI_any c3 hqc3 HL.out (by omega) U0 U1 u hU)
          clear hU
          go_wp2_with fail
          refine C1.out.mono ?_
          rintro e w21 ⟨rfl, hb⟩
          have HB21 := Lib.hid (HB20.out.trans (hb.mono HB20.out.size))
          have HL21 := Lib.hid (HL.out.below hb HL.out.low)
          clear hb HB20 HL C1
          have PA := Lib.hid (BoxB.new w21 U0 U1)
          have HB22 := Lib.hid (HB21.out.trans ((below1q w21 (.cells #[.int .i64 U0, .int .i64 U1] 46)).mono HB21.out.size))
          have HL22 := Lib.hid (HL21.out.below (below1q w21 (.cells #[.int .i64 U0, .int .i64 U1] 46)) HL21.out.low)
          obtain ⟨W22, hW22⟩ : ∃ W, w21.alloc (.cells #[.int .i64 U0, .int .i64 U1] 46) = W := ⟨_, rfl⟩
          obtain ⟨ga, hga⟩ : ∃ g, w21.heap.size = g := ⟨_, rfl⟩
          rw [hW22, hga] at PA
          rw [hW22] at HB22 HL22
          have HW22 := Lib.hid hW22
          have HGA := Lib.hid hga
          have C2 := Lib.hid (comS_any c3 HL22.out (by omega) U0 U1 u HU.out)
          clear hW22 hga HB21 HL21
          go_wp2_with fail
          simp only [HW22.out, HGA.out]
          refine C2.out.mono ?_
          rintro e w23 ⟨rfl, hb⟩
          have HB23 := Lib.hid (HB22.out.trans (hb.mono HB22.out.size))
          have HL23 := Lib.hid (HL22.out.below hb HL22.out.low)
          have PA3 := Lib.hid (PA.out.all hb)
          clear hb HB22 HL22 C2 PA HW22 HGA
          have HB24 := Lib.hid (HB23.out.trans ((below1q w23 (.cells #[.int .i64 U0, .int .i64 U1] 46)).mono HB23.out.size))
          have HL24 := Lib.hid (HL23.out.below (below1q w23 (.cells #[.int .i64 U0, .int .i64 U1] 46)) HL23.out.low)
          have QA := Lib.hid (PA3.out.all (below1q w23 (.cells #[.int .i64 U0, .int .i64 U1] 46)))
          have C3 := Lib.hid (truI_any c3 HL24.out (by omega) 0 U0 U1 u (com_tru HU.out))
          have d0 := PA3.out.c0
          have d1 := PA3.out.c1
          have hla := PA3.out.lt
          have huu : (u != u) = false := by simp
          have h00 : (U0 != U0) = false := by simp
          have h11 : (U1 != U1) = false := by simp
          clear HB23 HL23 HL24 PA3 HU
          go_wp2_with fail
          refine C3.out.mono ?_
          rintro e w25 ⟨rfl, hb⟩
          have HB25 := Lib.hid (HB24.out.trans (hb.mono HB24.out.size))
          have QA5 := Lib.hid (QA.out.all hb)
          clear hb HB24 C3 QA d0 d1 hla
          have HB26 := Lib.hid (HB25.out.trans ((below1q w25 (.cells #[.int .i64 U0, .int .i64 U1] 46)).mono HB25.out.size))
          have e0 := QA5.out.c0
          have e1 := QA5.out.c1
          have hle := QA5.out.lt
          have huu2 : (u == u) = true := by simp
          have h002 : (U0 == U0) = true := by simp
          have h112 : (U1 == U1) = true := by simp
          clear HB25
          go_wp2_with fail
          go_ret
          exact ⟨rfl, HB26.out⟩
theorem own : ownKnob Try.prog.godebug = none := by kernel_rfl
theorem laidOut : laidOutB Try.prog = true := by kernel_rfl

set_option maxRecDepth 100000 in
theorem lifted (os : Os) (started : os.Started) (H : Type) (enc : TypeId × Value → H) :
    ReturnsInHanded {} Try.checked os 15 .any (Rows.fnTrustSpec.pre6 enc Try.prog Try.f15 Rows.fnTrustRow.domain false) (Rows.fnTrustSpec.post enc Try.prog Try.f15 false true false false) := by
  refine returnsInHanded_of_change (C := Try.checked) own started (by kernel_rfl) Try.func15
    (ChangeSpec.witness6 (enc := enc) (C := Try.checked) false ⟨#[], #[.slice none 0 0], []⟩ 8 (by kernel_rfl) (by kernel_rfl) (by kernel_rfl) (by kernel_rfl)) ?_
  intro W base args ds gs before hval0 hW hcnd _
  have hval : ∀ (j : Nat) t v, Try.f15.params[j]? = some t → args[j]? = some v → Value.okWide Try.prog W .any base t v := hval0
  have hW' := hW
  obtain ⟨p, q, hA0, hV, rfl, hfz, hnd⟩ := hW
  have hA : DataW.TrodAll enc Try.prog W 0 (fun _ => true) true Try.f15.params.toList args.toList ds p := hA0
  rw [Try.params15] at hA hval
  obtain ⟨v0, vs0, d0, ds0, p0, q0, hargs, rfl, rfl, h0, r0⟩ := trodAll_cons hA
  obtain ⟨rfl, rfl, rfl⟩ := trodAll_nil r0
  obtain rfl : args = #[v0] := by cases args; simp_all
  obtain ⟨rfl, rfl⟩ := trodVars_none hV
  obtain ⟨a0, len0, cap0, rfl⟩ := okWide_slice Try.underlying57 (hval 0 57 v0 rfl rfl)
  have k0 := h0
  have lt0 : ∀ x ∈ p0, x.block < W.heap.size := by obtain ⟨m, hm⟩ := k0; exact DataW.trod_lt m _ _ _ hm
  obtain ⟨z0, w0⟩ : ∃ zs, IsInts .u8 W a0 len0 zs := by
    obtain ⟨fuel, hf⟩ := h0
    rcases open_ints Try.underlying57 Try.underlying5 (by kernel_rfl) hf with ⟨hcs, _⟩ | ⟨x, l, c, zs, hcs, _, hl, hm, hz, _, hcell, hwz⟩
    · simp [Value.cells] at hcs
      obtain ⟨rfl, rfl, rfl⟩ := hcs
      exact ⟨[], isInts_nil _ W⟩
    · simp [Value.cells] at hcs
      obtain ⟨rfl, rfl, rfl⟩ := hcs
      exact ⟨_, isInts_some hl hm (by simpa using hz) hcell hwz⟩
  clear hA0 hval0
  refine (walk a0 len0 cap0 z0 W w0).mono fun e W' ⟨he, bel⟩ => ?_
  subst he
  exact ⟨_, rfl, _, _, _, [], _, [], hW', trodAll_mk1 (shut_bool Try.underlying4 _), (trodAll_cons_mk (Below.trod laidOut (by kernel_rfl) (of_decide_eq_true (by kernel_rfl)) k0 bel lt0) trodAll_mk0), rfl, bel.frame _, fun h => by cases h⟩

theorem over : Rows.fnTrustRow.holds Try.pinned (OpenSpec.ofChange Rows.fnTrustSpec) :=
  OpenClaim.holds_of_wide 15 Try.f15 rfl rfl rfl rfl rfl rfl rfl ⟨rfl, rfl, rfl, rfl, rfl⟩ rfl rfl rfl rfl rfl (by kernel_rfl) Try.func15 (by kernel_rfl)
    (of_decide_eq_true (by kernel_rfl)) (by unfold Func.isWrapper; first | (rw [if_pos (by decide +kernel)]; kernel_rfl) | (rw [if_neg (by decide +kernel)]; exact ⟨rfl, rfl⟩))
    (fun os started H enc _ => lifted os started H enc)

/-- The statement. -/
theorem proved : Rows.FnTrustSaid := over
end Go.Proofs.Yteeljlpbijmhlaa.fnTrust
