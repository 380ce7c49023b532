/- FnSeries holds: a calm run has no jump, before the first jump there is none, and a stuck sensor has been calm; at every list of bytes. -/
import Derived.Test.YteeljlpbijmhlaaSeE
import Derived.Test.YteeljlpbijmhlaaSeBig
import Derived.Test.YteeljlpbijmhlaaSeV
import Derived.Test.YteeljlpbijmhlaaSt0
import Derived.OpenShut
import Derived.ShutString
import Derived.ChangeOld
import Derived.WalkLawsBesides
import Derived.Lib.SmallJoins
import Derived.Deep.RegionHeld3
namespace Go.Proofs.Yteeljlpbijmhlaa.fnSeries
open Go.ChangeShapes Go.WideShapes Go.ChangeAt Go.RowKit
open Go.ChangeMaps (open_string shut_string)
set_option linter.unusedVariables false
set_option linter.unusedSimpArgs false

set_option maxRecDepth 100000 in
set_option maxHeartbeats 8000000 in
theorem walk (A : Option Addr) (n c : Nat) (zs : List Int) (w : World) (hI : IsInts .u8 w A n zs) :
    Calls Try.prog 14 #[.slice A n c] w fun e w' => e = .returned (.bool true) ∧ Below w.heap.size w w' := by
  have CB := Lib.hid (fun W => rBig_any A n c W hI.2.1)
  by_cases hbig : (65536 : Int) < (n : Int)
  · rw [decide_eq_true hbig] at CB
    clear hI
    go_enter Try.func14, Try.ntmps14
    go_wp2_with fail
    refine (CB.out _).mono ?_
    rintro e w1 ⟨rfl, rfl⟩
    go_wp2_with fail
    go_ret
    exact ⟨rfl, Below.refl _ _⟩
  · rw [decide_eq_false hbig] at CB
    have HC := Lib.hid (Code_.of hI (by omega))
    have D1 := Lib.hid (drawL_any c HC.out)
    clear hI hbig
    go_enter Try.func14, Try.ntmps14
    go_wp2_with fail
    refine (CB.out _).mono ?_
    rintro e w1 ⟨rfl, rfl⟩
    clear CB
    go_wp2_with fail
    refine D1.out.mono ?_
    rintro e w1 ⟨g1, c1, q1, L1, z1, rfl, hq1, hqc1, hL1, hb⟩
    have HB1 := Lib.hid hb
    have HL := Lib.hid hL1
    clear hb D1 hL1
    obtain ⟨i1, m1, x1, hA⟩ := calA_ex L1 z1
    have HA := Lib.hid hA
    have C1 := Lib.hid (calI_any (some ⟨g1, 0, none⟩) q1 c1 _ hqc1 L1 z1 i1 m1 x1 hA w1 HL.out.len (by omega) HL.out.low HL.out.has)
    have C2 := Lib.hid (calS_any (some ⟨g1, 0, none⟩) q1 c1 _ L1 z1 i1 m1 x1 hA w1 HL.out.len (by omega) HL.out.low HL.out.has)
    have hii1 : (i1 != i1) = false := by simp
    have hmm1 : (m1 != m1) = false := by simp
    have hxx1 : (x1 != x1) = false := by simp
    clear hA
    go_wp2_with fail
    refine C1.out.mono ?_
    rintro e w2' ⟨rfl, rfl⟩
    clear C1
    go_wp2_with fail
    refine C2.out.mono ?_
    rintro e w2 ⟨rfl, hb⟩
    have HB2 := Lib.hid (HB1.out.trans (hb.mono HB1.out.size))
    have HL2 := Lib.hid (HL.out.below hb HL.out.low)
    clear hb HB1 HL C2
    cases x1 with
    | false =>
      clear HA HL2
      have D2 := Lib.hid (drawJ_any c (HC.out.on HB2.out))
      go_wp2_with fail
      refine D2.out.mono ?_
      rintro e w4 ⟨g2, c2, q2, L2, z2, rfl, hq2, hqc2, hL2, hb⟩
      have HB4 := Lib.hid (HB2.out.trans (hb.mono HB2.out.size))
      have HL := Lib.hid hL2
      clear hb D2 HB2 hL2
      obtain ⟨m2, x2, hA⟩ := jmpA_ex L2 z2
      have HA := Lib.hid hA
      have C1 := Lib.hid (jumpI_any (some ⟨g2, 0, none⟩) q2 c2 _ hqc2 L2 z2 m2 x2 hA w4 HL.out.len (by omega) HL.out.low HL.out.has)
      have C2 := Lib.hid (jumpS_any (some ⟨g2, 0, none⟩) q2 c2 _ L2 z2 m2 x2 hA w4 HL.out.len (by omega) HL.out.low HL.out.has)
      have hmm2 : (m2 != m2) = false := by simp
      have hxx2 : (x2 != x2) = false := by simp
      clear hA
      go_wp2_with fail
      refine C1.out.mono ?_
      rintro e w5' ⟨rfl, rfl⟩
      clear C1
      go_wp2_with fail
      refine C2.out.mono ?_
      rintro e w5 ⟨rfl, hb⟩
      have HB := Lib.hid (HB4.out.trans (hb.mono HB4.out.size))
      have HL5 := Lib.hid (HL.out.below hb HL.out.low)
      clear hb HB4 HL C2
      cases x2 with
      | false =>
        clear HA HL5
        -- the drawn series that may be stuck
        have D3 := Lib.hid (drawK_any c (HC.out.on HB.out))
        clear HC
        go_wp2_with fail
        refine D3.out.mono ?_
        rintro e w7 ⟨g3, c3, q3, L3, z3, rfl, hq3, hqc3, hL3, hb⟩
        have HB7 := Lib.hid (HB.out.trans (hb.mono HB.out.size))
        have HL := Lib.hid hL3
        clear hb D3 HB hL3
        obtain ⟨b, x, hA⟩ := stkA_ex L3 z3
        have HA := Lib.hid hA
        have C1 := Lib.hid (stkI_any (some ⟨g3, 0, none⟩) q3 c3 _ hqc3 L3 z3 b x hA w7 HL.out.len (by omega) HL.out.low HL.out.has)
        have C2 := Lib.hid (stkS_any (some ⟨g3, 0, none⟩) q3 c3 _ L3 z3 b x hA w7 HL.out.len (by omega) HL.out.low HL.out.has)
        have hbb : (b != b) = false := by simp
        have hxx : (x != x) = false := by simp
        clear hA
        go_wp2_with fail
        refine C1.out.mono ?_
        rintro e w8' ⟨rfl, rfl⟩
        clear C1
        go_wp2_with fail
        refine C2.out.mono ?_
        rintro e w8 ⟨rfl, hb⟩
        have HB8 := Lib.hid (HB7.out.trans (hb.mono HB7.out.size))
        have HL8 := Lib.hid (HL.out.below hb HL.out.low)
        clear hb HB7 HL C2
        cases b with
        | false =>
          go_wp2_with fail
          go_ret
          exact ⟨rfl, HB8.out⟩
        | true =>
          have hst : serS L3 ∧ 2 ≤ z3 ∧ z3 ≤ 20 ∧ stuckB L3 z3.toNat = true := by
            by_cases h : serS L3 ∧ 2 ≤ z3 ∧ z3 ≤ 20
            · exact ⟨h.1, h.2.1, h.2.2, (HA.out.1 h).1.symm⟩
            · have := (HA.out.2 h).1
              cases this
          obtain ⟨i, m, y, hB⟩ := calA_ex L3 0
          have hst2 := of_decide_eq_true hst.2.2.2
          have hpos : 0 < L3.length := by have := hst2.1; omega
          have hg : serS L3 ∧ 0 < L3.length ∧ (0 : Int) ≤ 0 ∧ (0 : Int) ≤ 2000 := ⟨hst.1, hpos, by omega, by omega⟩
          obtain ⟨a9, b9, hbk⟩ := bestK_ex L3 0 L3.length (Nat.le_refl _)
          obtain ⟨rfl, rfl, rfl⟩ := calA_yes hB hg hbk
          have hge : z3.toNat ≤ b9 := best_ge hbk (by omega) (stuck_calm (by omega) hst.2.2.2)
          have hgi : z3 ≤ (b9 : Int) := by omega
          have C3 := Lib.hid (calI_any (some ⟨g3, 0, none⟩) q3 c3 _ hqc3 L3 0 a9 b9 true hB w8 HL8.out.len (by omega) HL8.out.low HL8.out.has)
          clear HA hst hst2 hpos hg hbk hge hB HL8
          go_wp2_with fail
          refine C3.out.mono ?_
          rintro e w9 ⟨rfl, rfl⟩
          clear C3
          go_wp2_with fail
          go_ret
          exact ⟨rfl, HB8.out⟩
      | true =>
        obtain ⟨i2, rfl, hj2, hn2⟩ : ∃ i : Nat, m2 = i ∧ jmpAt L2 z2 i ∧ ∀ j, j < i → ¬ jmpAt L2 z2 j := by
          rcases HA.out with ⟨-, -, -, i, h1, h2, h3⟩ | ⟨h, -⟩
          · exact ⟨i, h1, h2, h3⟩
          · cases h
        have hi2 : i2 < q2 := by have := hj2.2.1; rw [HL5.out.len] at this; exact this
        have hcut := HL5.out.cut 0 i2 (by omega)
        rw [List.drop_zero, show (⟨g2, 0, none⟩ : Addr).add 0 = ⟨g2, 0, none⟩ from rfl] at hcut
        have CJ := Lib.hid (jumpI_any (some ⟨g2, 0, none⟩) i2 c2 _ (by omega) _ z2 0 false (.inr ⟨rfl, rfl, fun _ _ => first_jump hn2⟩) w5 hcut.len (by omega) hcut.low hcut.has)
        have h90 : (0 : Int) ≤ (i2 : Int) := by omega
        have h91 : (i2 : Int) ≤ (c2 : Int) := by omega
        clear hcut HA HL5 hj2 hn2
        go_wp2_with fail
        refine CJ.out.mono ?_
        rintro e w6' ⟨rfl, rfl⟩
        clear CJ
        -- the drawn series that may be stuck
        have D3 := Lib.hid (drawK_any c (HC.out.on HB.out))
        clear HC
        go_wp2_with fail
        refine D3.out.mono ?_
        rintro e w7 ⟨g3, c3, q3, L3, z3, rfl, hq3, hqc3, hL3, hb⟩
        have HB7 := Lib.hid (HB.out.trans (hb.mono HB.out.size))
        have HL := Lib.hid hL3
        clear hb D3 HB hL3
        obtain ⟨b, x, hA⟩ := stkA_ex L3 z3
        have HA := Lib.hid hA
        have C1 := Lib.hid (stkI_any (some ⟨g3, 0, none⟩) q3 c3 _ hqc3 L3 z3 b x hA w7 HL.out.len (by omega) HL.out.low HL.out.has)
        have C2 := Lib.hid (stkS_any (some ⟨g3, 0, none⟩) q3 c3 _ L3 z3 b x hA w7 HL.out.len (by omega) HL.out.low HL.out.has)
        have hbb : (b != b) = false := by simp
        have hxx : (x != x) = false := by simp
        clear hA
        go_wp2_with fail
        refine C1.out.mono ?_
        rintro e w8' ⟨rfl, rfl⟩
        clear C1
        go_wp2_with fail
        refine C2.out.mono ?_
        rintro e w8 ⟨rfl, hb⟩
        have HB8 := Lib.hid (HB7.out.trans (hb.mono HB7.out.size))
        have HL8 := Lib.hid (HL.out.below hb HL.out.low)
        clear hb HB7 HL C2
        cases b with
        | false =>
          go_wp2_with fail
          go_ret
          exact ⟨rfl, HB8.out⟩
        | true =>
          have hst : serS L3 ∧ 2 ≤ z3 ∧ z3 ≤ 20 ∧ stuckB L3 z3.toNat = true := by
            by_cases h : serS L3 ∧ 2 ≤ z3 ∧ z3 ≤ 20
            · exact ⟨h.1, h.2.1, h.2.2, (HA.out.1 h).1.symm⟩
            · have := (HA.out.2 h).1
              cases this
          obtain ⟨i, m, y, hB⟩ := calA_ex L3 0
          have hst2 := of_decide_eq_true hst.2.2.2
          have hpos : 0 < L3.length := by have := hst2.1; omega
          have hg : serS L3 ∧ 0 < L3.length ∧ (0 : Int) ≤ 0 ∧ (0 : Int) ≤ 2000 := ⟨hst.1, hpos, by omega, by omega⟩
          obtain ⟨a9, b9, hbk⟩ := bestK_ex L3 0 L3.length (Nat.le_refl _)
          obtain ⟨rfl, rfl, rfl⟩ := calA_yes hB hg hbk
          have hge : z3.toNat ≤ b9 := best_ge hbk (by omega) (stuck_calm (by omega) hst.2.2.2)
          have hgi : z3 ≤ (b9 : Int) := by omega
          have C3 := Lib.hid (calI_any (some ⟨g3, 0, none⟩) q3 c3 _ hqc3 L3 0 a9 b9 true hB w8 HL8.out.len (by omega) HL8.out.low HL8.out.has)
          clear HA hst hst2 hpos hg hbk hge hB HL8
          go_wp2_with fail
          refine C3.out.mono ?_
          rintro e w9 ⟨rfl, rfl⟩
          clear C3
          go_wp2_with fail
          go_ret
          exact ⟨rfl, HB8.out⟩
    | true =>
      obtain ⟨a1, b1, rfl, rfl, hpos, hcalm⟩ : ∃ a b : Nat, i1 = a ∧ m1 = b ∧ 1 ≤ b ∧ calm L1 z1 a b := by
        rcases HA.out with ⟨-, h1, a, b, h2, h3, h4⟩ | ⟨h, -⟩
        · obtain ⟨h5, h6⟩ := best_pos h1.2.2.1 h1.2.1 h4
          exact ⟨a, b, h2, h3, h5, h6⟩
        · cases h
      have hab : a1 + b1 ≤ q1 := by have := hcalm.1; rw [HL2.out.len] at this; exact this
      have hcut := HL2.out.cut a1 b1 hab
      rw [addZ] at hcut
      have CJ := Lib.hid (fun c' hc' => jumpI_any (some ⟨g1, a1, none⟩) b1 c' _ hc' _ z1 0 false (.inr ⟨rfl, rfl, fun _ _ => calm_jump hcalm⟩) w2 hcut.len (by omega) hcut.low hcut.has)
      have h90 : ¬ ((b1 : Int) < 1) := by omega
      have h91 : ¬ ((q1 : Int) < (a1 : Int) + (b1 : Int)) := by omega
      have h92 : (a1 : Int) ≤ (a1 : Int) + (b1 : Int) := by omega
      have h93 : (a1 : Int) + (b1 : Int) ≤ (c1 : Int) := by omega
      have h94 : a1 ≠ c1 := by omega
      have h95 : a1 + b1 - a1 = b1 := by omega
      clear hcut HA HL2 hcalm
      go_wp2_with fail
      try simp only [h95]
      refine (CJ.out _ (by omega)).mono ?_
      rintro e w3' ⟨rfl, rfl⟩
      clear CJ
      have D2 := Lib.hid (drawJ_any c (HC.out.on HB2.out))
      go_wp2_with fail
      refine D2.out.mono ?_
      rintro e w4 ⟨g2, c2, q2, L2, z2, rfl, hq2, hqc2, hL2, hb⟩
      have HB4 := Lib.hid (HB2.out.trans (hb.mono HB2.out.size))
      have HL := Lib.hid hL2
      clear hb D2 HB2 hL2
      obtain ⟨m2, x2, hA⟩ := jmpA_ex L2 z2
      have HA := Lib.hid hA
      have C1 := Lib.hid (jumpI_any (some ⟨g2, 0, none⟩) q2 c2 _ hqc2 L2 z2 m2 x2 hA w4 HL.out.len (by omega) HL.out.low HL.out.has)
      have C2 := Lib.hid (jumpS_any (some ⟨g2, 0, none⟩) q2 c2 _ L2 z2 m2 x2 hA w4 HL.out.len (by omega) HL.out.low HL.out.has)
      have hmm2 : (m2 != m2) = false := by simp
      have hxx2 : (x2 != x2) = false := by simp
      clear hA
      go_wp2_with fail
      refine C1.out.mono ?_
      rintro e w5' ⟨rfl, rfl⟩
      clear C1
      go_wp2_with fail
      refine C2.out.mono ?_
      rintro e w5 ⟨rfl, hb⟩
      have HB := Lib.hid (HB4.out.trans (hb.mono HB4.out.size))
      have HL5 := Lib.hid (HL.out.below hb HL.out.low)
      clear hb HB4 HL C2
      cases x2 with
      | false =>
        clear HA HL5
        -- the drawn series that may be stuck
        have D3 := Lib.hid (drawK_any c (HC.out.on HB.out))
        clear HC
        go_wp2_with fail
        refine D3.out.mono ?_
        rintro e w7 ⟨g3, c3, q3, L3, z3, rfl, hq3, hqc3, hL3, hb⟩
        have HB7 := Lib.hid (HB.out.trans (hb.mono HB.out.size))
        have HL := Lib.hid hL3
        clear hb D3 HB hL3
        obtain ⟨b, x, hA⟩ := stkA_ex L3 z3
        have HA := Lib.hid hA
        have C1 := Lib.hid (stkI_any (some ⟨g3, 0, none⟩) q3 c3 _ hqc3 L3 z3 b x hA w7 HL.out.len (by omega) HL.out.low HL.out.has)
        have C2 := Lib.hid (stkS_any (some ⟨g3, 0, none⟩) q3 c3 _ L3 z3 b x hA w7 HL.out.len (by omega) HL.out.low HL.out.has)
        have hbb : (b != b) = false := by simp
        have hxx : (x != x) = false := by simp
        clear hA
        go_wp2_with fail
        refine C1.out.mono ?_
        rintro e w8' ⟨rfl, rfl⟩
        clear C1
        go_wp2_with fail
        refine C2.out.mono ?_
        rintro e w8 ⟨rfl, hb⟩
        have HB8 := Lib.hid (HB7.out.trans (hb.mono HB7.out.size))
        have HL8 := Lib.hid (HL.out.below hb HL.out.low)
        clear hb HB7 HL C2
        cases b with
        | false =>
          go_wp2_with fail
          go_ret
          exact ⟨rfl, HB8.out⟩
        | true =>
          have hst : serS L3 ∧ 2 ≤ z3 ∧ z3 ≤ 20 ∧ stuckB L3 z3.toNat = true := by
            by_cases h : serS L3 ∧ 2 ≤ z3 ∧ z3 ≤ 20
            · exact ⟨h.1, h.2.1, h.2.2, (HA.out.1 h).1.symm⟩
            · have := (HA.out.2 h).1
              cases this
          obtain ⟨i, m, y, hB⟩ := calA_ex L3 0
          have hst2 := of_decide_eq_true hst.2.2.2
          have hpos : 0 < L3.length := by have := hst2.1; omega
          have hg : serS L3 ∧ 0 < L3.length ∧ (0 : Int) ≤ 0 ∧ (0 : Int) ≤ 2000 := ⟨hst.1, hpos, by omega, by omega⟩
          obtain ⟨a9, b9, hbk⟩ := bestK_ex L3 0 L3.length (Nat.le_refl _)
          obtain ⟨rfl, rfl, rfl⟩ := calA_yes hB hg hbk
          have hge : z3.toNat ≤ b9 := best_ge hbk (by omega) (stuck_calm (by omega) hst.2.2.2)
          have hgi : z3 ≤ (b9 : Int) := by omega
          have C3 := Lib.hid (calI_any (some ⟨g3, 0, none⟩) q3 c3 _ hqc3 L3 0 a9 b9 true hB w8 HL8.out.len (by omega) HL8.out.low HL8.out.has)
          clear HA hst hst2 hpos hg hbk hge hB HL8
          go_wp2_with fail
          refine C3.out.mono ?_
          rintro e w9 ⟨rfl, rfl⟩
          clear C3
          go_wp2_with fail
          go_ret
          exact ⟨rfl, HB8.out⟩
      | true =>
        obtain ⟨i2, rfl, hj2, hn2⟩ : ∃ i : Nat, m2 = i ∧ jmpAt L2 z2 i ∧ ∀ j, j < i → ¬ jmpAt L2 z2 j := by
          rcases HA.out with ⟨-, -, -, i, h1, h2, h3⟩ | ⟨h, -⟩
          · exact ⟨i, h1, h2, h3⟩
          · cases h
        have hi2 : i2 < q2 := by have := hj2.2.1; rw [HL5.out.len] at this; exact this
        have hcut := HL5.out.cut 0 i2 (by omega)
        rw [List.drop_zero, show (⟨g2, 0, none⟩ : Addr).add 0 = ⟨g2, 0, none⟩ from rfl] at hcut
        have CJ := Lib.hid (jumpI_any (some ⟨g2, 0, none⟩) i2 c2 _ (by omega) _ z2 0 false (.inr ⟨rfl, rfl, fun _ _ => first_jump hn2⟩) w5 hcut.len (by omega) hcut.low hcut.has)
        have h90 : (0 : Int) ≤ (i2 : Int) := by omega
        have h91 : (i2 : Int) ≤ (c2 : Int) := by omega
        clear hcut HA HL5 hj2 hn2
        go_wp2_with fail
        refine CJ.out.mono ?_
        rintro e w6' ⟨rfl, rfl⟩
        clear CJ
        -- the drawn series that may be stuck
        have D3 := Lib.hid (drawK_any c (HC.out.on HB.out))
        clear HC
        go_wp2_with fail
        refine D3.out.mono ?_
        rintro e w7 ⟨g3, c3, q3, L3, z3, rfl, hq3, hqc3, hL3, hb⟩
        have HB7 := Lib.hid (HB.out.trans (hb.mono HB.out.size))
        have HL := Lib.hid hL3
        clear hb D3 HB hL3
        obtain ⟨b, x, hA⟩ := stkA_ex L3 z3
        have HA := Lib.hid hA
        have C1 := Lib.hid (stkI_any (some ⟨g3, 0, none⟩) q3 c3 _ hqc3 L3 z3 b x hA w7 HL.out.len (by omega) HL.out.low HL.out.has)
        have C2 := Lib.hid (stkS_any (some ⟨g3, 0, none⟩) q3 c3 _ L3 z3 b x hA w7 HL.out.len (by omega) HL.out.low HL.out.has)
        have hbb : (b != b) = false := by simp
        have hxx : (x != x) = false := by simp
        clear hA
        go_wp2_with fail
        refine C1.out.mono ?_
        rintro e w8' ⟨rfl, rfl⟩
        clear C1
        go_wp2_with fail
        refine C2.out.mono ?_
        rintro e w8 ⟨rfl, hb⟩
        have HB8 := Lib.hid (HB7.out.trans (hb.mono HB7.out.size))
        have HL8 := Lib.hid (HL.out.below hb HL.out.low)
        clear hb HB7 HL C2
        cases b with
        | false =>
          go_wp2_with fail
          go_ret
          exact ⟨rfl, HB8.out⟩
        | true =>
          have hst : serS L3 ∧ 2 ≤ z3 ∧ z3 ≤ 20 ∧ stuckB L3 z3.toNat = true := by
            by_cases h : serS L3 ∧ 2 ≤ z3 ∧ z3 ≤ 20
            · exact ⟨h.1, h.2.1, h.2.2, (HA.out.1 h).1.symm⟩
            · have := (HA.out.2 h).1
              cases this
          obtain ⟨i, m, y, hB⟩ := calA_ex L3 0
          have hst2 := of_decide_eq_true hst.2.2.2
          have hpos : 0 < L3.length := by have := hst2.1; omega
          have hg : serS L3 ∧ 0 < L3.length ∧ (0 : Int) ≤ 0 ∧ (0 : Int) ≤ 2000 := ⟨hst.1, hpos, by omega, by omega⟩
          obtain ⟨a9, b9, hbk⟩ := bestK_ex L3 0 L3.length (Nat.le_refl _)
          obtain ⟨rfl, rfl, rfl⟩ := calA_yes hB hg hbk
          have hge : z3.toNat ≤ b9 := best_ge hbk (by omega) (stuck_calm (by omega) hst.2.2.2)
          have hgi : z3 ≤ (b9 : Int) := by omega
          have C3 := Lib.hid (calI_any (some ⟨g3, 0, none⟩) q3 c3 _ hqc3 L3 0 a9 b9 true hB w8 HL8.out.len (by omega) HL8.out.low HL8.out.has)
          clear HA hst hst2 hpos hg hbk hge hB HL8
          go_wp2_with fail
          refine C3.out.mono ?_
          rintro e w9 ⟨rfl, rfl⟩
          clear C3
          go_wp2_with fail
          go_ret
          exact ⟨rfl, HB8.out⟩
theorem own : ownKnob Try.prog.godebug = none := by kernel_rfl
theorem laidOut : laidOutB Try.prog = true := by kernel_rfl

set_option maxRecDepth 100000 in
theorem lifted (os : Os) (started : os.Started) (H : Type) (enc : TypeId × Value → H) :
    ReturnsInHanded {} Try.checked os 14 .any (Rows.fnSeriesSpec.pre6 enc Try.prog Try.f14 Rows.fnSeriesRow.domain false) (Rows.fnSeriesSpec.post enc Try.prog Try.f14 false true false false) := by
  refine returnsInHanded_of_change (C := Try.checked) own started (by kernel_rfl) Try.func14
    (ChangeSpec.witness6 (enc := enc) (C := Try.checked) false ⟨#[], #[.slice none 0 0], []⟩ 8 (by kernel_rfl) (by kernel_rfl) (by kernel_rfl) (by kernel_rfl)) ?_
  intro W base args ds gs before hval0 hW hcnd _
  have hval : ∀ (j : Nat) t v, Try.f14.params[j]? = some t → args[j]? = some v → Value.okWide Try.prog W .any base t v := hval0
  have hW' := hW
  obtain ⟨p, q, hA0, hV, rfl, hfz, hnd⟩ := hW
  have hA : DataW.TrodAll enc Try.prog W 0 (fun _ => true) true Try.f14.params.toList args.toList ds p := hA0
  rw [Try.params14] at hA hval
  obtain ⟨v0, vs0, d0, ds0, p0, q0, hargs, rfl, rfl, h0, r0⟩ := trodAll_cons hA
  obtain ⟨rfl, rfl, rfl⟩ := trodAll_nil r0
  obtain rfl : args = #[v0] := by cases args; simp_all
  obtain ⟨rfl, rfl⟩ := trodVars_none hV
  obtain ⟨a0, len0, cap0, rfl⟩ := okWide_slice Try.underlying57 (hval 0 57 v0 rfl rfl)
  have k0 := h0
  have lt0 : ∀ x ∈ p0, x.block < W.heap.size := by obtain ⟨m, hm⟩ := k0; exact DataW.trod_lt m _ _ _ hm
  obtain ⟨z0, w0⟩ : ∃ zs, IsInts .u8 W a0 len0 zs := by
    obtain ⟨fuel, hf⟩ := h0
    rcases open_ints Try.underlying57 Try.underlying5 (by kernel_rfl) hf with ⟨hcs, _⟩ | ⟨x, l, c, zs, hcs, _, hl, hm, hz, _, hcell, hwz⟩
    · simp [Value.cells] at hcs
      obtain ⟨rfl, rfl, rfl⟩ := hcs
      exact ⟨[], isInts_nil _ W⟩
    · simp [Value.cells] at hcs
      obtain ⟨rfl, rfl, rfl⟩ := hcs
      exact ⟨_, isInts_some hl hm (by simpa using hz) hcell hwz⟩
  clear hA0 hval0
  refine (walk a0 len0 cap0 z0 W w0).mono fun e W' ⟨he, bel⟩ => ?_
  subst he
  exact ⟨_, rfl, _, _, _, [], _, [], hW', trodAll_mk1 (shut_bool Try.underlying4 _), (trodAll_cons_mk (Below.trod laidOut (by kernel_rfl) (of_decide_eq_true (by kernel_rfl)) k0 bel lt0) trodAll_mk0), rfl, bel.frame _, fun h => by cases h⟩

theorem over : Rows.fnSeriesRow.holds Try.pinned (OpenSpec.ofChange Rows.fnSeriesSpec) :=
  OpenClaim.holds_of_wide 14 Try.f14 rfl rfl rfl rfl rfl rfl rfl ⟨rfl, rfl, rfl, rfl, rfl⟩ rfl rfl rfl rfl rfl (by kernel_rfl) Try.func14 (by kernel_rfl)
    (of_decide_eq_true (by kernel_rfl)) (by unfold Func.isWrapper; first | (rw [if_pos (by decide +kernel)]; kernel_rfl) | (rw [if_neg (by decide +kernel)]; exact ⟨rfl, rfl⟩))
    (fun os started H enc _ => lifted os started H enc)

/-- The statement. -/
theorem proved : Rows.FnSeriesSaid := over
end Go.Proofs.Yteeljlpbijmhlaa.fnSeries
