/- FnLockageEnds holds: the last lockage ends after all turns and lockages, and no vessel waits longer than the longest wait; at every list of bytes. -/
import Derived.Test.YtjlgabhkpoonkaaLeC
import Derived.Test.YtjlgabhkpoonkaaLeM
import Derived.Test.YtjlgabhkpoonkaaLkH
import Derived.Test.YtjlgabhkpoonkaaLkI
import Derived.Test.YtjlgabhkpoonkaaLkJ
import Derived.Test.YtjlgabhkpoonkaaBig
import Derived.Test.YtjlgabhkpoonkaaSt0
import Derived.OpenShut
import Derived.ShutString
import Derived.ChangeOld
import Derived.WalkLawsBesides
import Derived.Lib.SmallJoins
import Derived.Deep.RegionHeld3
namespace Go.Proofs.Ytjlgabhkpoonkaa.fnLockageEnds
open Go.ChangeShapes Go.WideShapes Go.ChangeAt Go.RowKit
open Go.ChangeMaps (open_string shut_string)
set_option linter.unusedVariables false
set_option linter.unusedSimpArgs false

theorem told_is {vs : List TArrival} {h : Bool} {os : List Int} {T : Int} {x : Bool} (hA : TurnA vs h os T x) : x = oA vs os := by
  obtain ⟨L, hL, rfl⟩ := hA
  cases e : oA vs os with
  | true => exact (hL.1 (gO_true e (by decide))).2
  | false => exact (hL.2 (gO_false (.inl e))).2
theorem ends_all {vs : List TArrival} {h : Bool} {m : Int} {os : List Int} {E D T z W : Int} {x1 x2 x3 x4 : Bool} (h1 : LastA vs h m os E x1) (h2 : TurnA vs h os T x2) (h3 : LongA vs h m os z W x3) (h4 : DelayA vs h m os D x4)
    (hg : gO vs m os = true) (h0 : 0 < vs.length) : x1 = true ∧ x3 = true ∧ x4 = true ∧ goodAs vs ∧ ∃ i : Nat, z = (i : Int) ∧ EndsA vs m i W D E T := by
  obtain ⟨L1, k1, rfl⟩ := h1
  obtain ⟨L2, k2, rfl⟩ := h2
  obtain ⟨L3, y, k3, h3, -⟩ := h3
  obtain ⟨L4, k4, rfl⟩ := h4
  obtain ⟨ho, hm⟩ := (gO_iff vs m os).1 hg
  have hg1 : gO vs 1 os = true := (gO_iff vs 1 os).2 ⟨ho, by omega⟩
  obtain ⟨rfl, rfl⟩ := k1.1 hg
  obtain ⟨rfl, -⟩ := k2.1 hg1
  obtain ⟨rfl, rfl⟩ := k3.1 hg
  obtain ⟨rfl, rfl⟩ := k4.1 hg
  have hne : lks vs m h os ≠ [] := fun e => by
    have := lks_len (h := h) hm (fun p hp => ho.good hp)
    rw [e, ho.2.1] at this
    simp at this
    omega
  obtain ⟨rfl, rfl, rfl⟩ := h3 ⟨rfl, hne⟩
  rw [if_neg hne]
  exact ⟨rfl, rfl, rfl, ho.1, ends_ex hg hne⟩
theorem ends_no {vs : List TArrival} {h : Bool} {m : Int} {os : List Int} {E z W : Int} {x1 x3 : Bool} (h1 : LastA vs h m os E x1) (h3 : LongA vs h m os z W x3)
    (hg : ¬ (gO vs m os = true ∧ 0 < vs.length)) : x3 = false ∧ (x1 = false ∨ vs.length = 0) := by
  obtain ⟨L1, k1, rfl⟩ := h1
  obtain ⟨L3, y, k3, -, h3⟩ := h3
  cases e : gO vs m os with
  | false =>
    obtain ⟨rfl, rfl⟩ := k1.2 e
    obtain ⟨rfl, rfl⟩ := k3.2 e
    exact ⟨(h3 (by simp)).2.2, .inl rfl⟩
  | true =>
    have h0 : vs.length = 0 := by
      rcases Nat.eq_zero_or_pos vs.length with h | h
      · exact h
      · exact absurd ⟨e, h⟩ hg
    obtain ⟨ho, hm⟩ := (gO_iff vs m os).1 e
    obtain ⟨rfl, rfl⟩ := k3.1 e
    have := lks_len (h := h) hm (fun p hp => ho.good hp)
    rw [ho.2.1, h0] at this
    exact ⟨(h3 (by rintro ⟨-, hn⟩; exact hn (List.length_eq_zero_iff.1 this))).2.2, .inr h0⟩

set_option maxRecDepth 100000 in
set_option maxHeartbeats 16000000 in
theorem walk (A : Option Addr) (n c : Nat) (zs : List Int) (w : World) (hI : IsInts .u8 w A n zs) :
    Calls Try.prog 3 #[.slice A n c] w fun e w' => e = .returned (.bool true) ∧ Below w.heap.size w w' := by
  by_cases hbig : 65536 < n
  · have CB := Lib.hid (bigL_yes A n c w hbig hI.2.1)
    clear hI
    go_enter Try.func3, Try.ntmps3
    go_wp2_with fail
    refine CB.out.mono ?_
    rintro e w1 ⟨rfl, rfl⟩
    go_wp2_with fail
    go_ret
    exact ⟨rfl, Below.refl _ _⟩
  · have CB := Lib.hid (bigL_no A n c w (by omega))
    have HC := Lib.hid (Code_.of hI (by omega))
    have D1 := Lib.hid (drawLast_any c HC.out)
    clear hI hbig
    go_enter Try.func3, Try.ntmps3
    go_wp2_with fail
    refine CB.out.mono ?_
    rintro e w1 ⟨rfl, rfl⟩
    clear CB
    go_wp2_with fail
    refine D1.out.mono ?_
    rintro e w1 ⟨g1, q, c1, vs, hi, m, g2, q2, c2, os, rfl, hq, hq2, hqc2, hV, hO, hb⟩
    have HB1 := Lib.hid hb
    have HV1 := Lib.hid hV
    have HO1 := Lib.hid hO
    have hlen := hV.len
    obtain ⟨E, x1, hA1⟩ := lastA_ex vs hi m os
    obtain ⟨T, x2, hA2⟩ := turnA_ex vs hi os
    obtain ⟨z, W, x3, hA3⟩ := longA_ex vs hi m os
    obtain ⟨D, x4, hA4⟩ := delayA_ex vs hi m os
    have HA1 := Lib.hid hA1
    have HA2 := Lib.hid hA2
    have HA3 := Lib.hid hA3
    have HA4 := Lib.hid hA4
    have HT := Lib.hid (told_is hA2)
    have hEE : (E != E) = false := by simp
    have hTT : (T != T) = false := by simp
    have hzz : (z != z) = false := by simp
    have hWW : (W != W) = false := by simp
    have h11 : (x1 != x1) = false := by simp
    have h22 : (x2 != x2) = false := by simp
    have h33 : (x3 != x3) = false := by simp
    have HEND := Lib.hid (fun hg h0 => ends_all hA1 hA2 hA3 hA4 hg h0)
    have HNO := Lib.hid (fun hg => ends_no hA1 hA3 hg)
    rw [hlen] at HEND HNO
    have C1 := Lib.hid (lastI_any c1 c2 HV1.out (by omega) HO1.out (by omega) hqc2 hi m E x1 hA1)
    clear hb D1 hV hO hA1 hA2 hA3 hA4
    go_wp2_with fail
    refine C1.out.mono ?_
    rintro e w2 ⟨rfl, hb⟩
    have HB2 := Lib.hid (HB1.out.trans (hb.mono HB1.out.size))
    have HV2 := Lib.hid (HV1.out.below hb HV1.out.low)
    have HO2 := Lib.hid (HO1.out.below hb HO1.out.low)
    clear hb C1 HB1 HV1 HO1
    have C2 := Lib.hid (lastS_any c1 c2 HV2.out (by omega) HO2.out (by omega) hqc2 hi m E x1 HA1.out)
    go_wp2_with fail
    refine C2.out.mono ?_
    rintro e w3 ⟨rfl, hb⟩
    have HB3 := Lib.hid (HB2.out.trans (hb.mono HB2.out.size))
    have HV3 := Lib.hid (HV2.out.below hb HV2.out.low)
    have HO3 := Lib.hid (HO2.out.below hb HO2.out.low)
    clear hb C2 HB2 HV2 HO2
    have C3 := Lib.hid (turnI_any c1 c2 HV3.out (by omega) HO3.out (by omega) hqc2 hi T x2 HA2.out)
    go_wp2_with fail
    refine C3.out.mono ?_
    rintro e w4 ⟨rfl, hb⟩
    have HB4 := Lib.hid (HB3.out.trans (hb.mono HB3.out.size))
    have HV4 := Lib.hid (HV3.out.below hb HV3.out.low)
    have HO4 := Lib.hid (HO3.out.below hb HO3.out.low)
    clear hb C3 HB3 HV3 HO3
    have C4 := Lib.hid (turnS_any c1 c2 HV4.out (by omega) HO4.out (by omega) hqc2 hi T x2 HA2.out)
    go_wp2_with fail
    refine C4.out.mono ?_
    rintro e w5 ⟨rfl, hb⟩
    have HB5 := Lib.hid (HB4.out.trans (hb.mono HB4.out.size))
    have HV5 := Lib.hid (HV4.out.below hb HV4.out.low)
    have HO5 := Lib.hid (HO4.out.below hb HO4.out.low)
    clear hb C4 HB4 HV4 HO4
    have C5 := Lib.hid (isOrderI_any c1 c2 HV5.out (by omega) HO5.out (by omega) hqc2)
    rw [← HT.out] at C5
    go_wp2_with fail
    refine C5.out.mono ?_
    rintro e w6 ⟨rfl, hb⟩
    have HB6 := Lib.hid (HB5.out.trans (hb.mono HB5.out.size))
    have HV6 := Lib.hid (HV5.out.below hb HV5.out.low)
    have HO6 := Lib.hid (HO5.out.below hb HO5.out.low)
    clear hb C5 HB5 HV5 HO5
    have C6 := Lib.hid (longI_any c1 c2 HV6.out (by omega) HO6.out (by omega) hqc2 hi m z W x3 HA3.out)
    go_wp2_with fail
    refine C6.out.mono ?_
    rintro e w7 ⟨rfl, hb⟩
    have HB7 := Lib.hid (HB6.out.trans (hb.mono HB6.out.size))
    have HV7 := Lib.hid (HV6.out.below hb HV6.out.low)
    have HO7 := Lib.hid (HO6.out.below hb HO6.out.low)
    clear hb C6 HB6 HV6 HO6
    have C7 := Lib.hid (longS_any c1 c2 HV7.out (by omega) HO7.out (by omega) hqc2 hi m z W x3 HA3.out)
    go_wp2_with fail
    refine C7.out.mono ?_
    rintro e w8 ⟨rfl, hb⟩
    have HB8 := Lib.hid (HB7.out.trans (hb.mono HB7.out.size))
    have HV8 := Lib.hid (HV7.out.below hb HV7.out.low)
    have HO8 := Lib.hid (HO7.out.below hb HO7.out.low)
    clear hb C7 HB7 HV7 HO7
    by_cases hF : gO vs m os = true ∧ 0 < q
    · obtain ⟨rfl, rfl, rfl, hgood, i, hzi, hEn⟩ := HEND.out hF.1 hF.2
      have HZ := Lib.hid hzi
      have hqn : 0 < q := hF.2
      have hq0 : (0 : Int) < (q : Int) := by omega
      have HG := Lib.hid hgood
      have C8 := Lib.hid (delayI_any c1 c2 HV8.out (by omega) HO8.out (by omega) hqc2 hi m D true HA4.out)
      have HE := Lib.hid hEn
      clear hEn hF HEND HNO HA1 HA2 HA3 HA4 HT hgood hzi
      go_wp2_with fail
      refine C8.out.mono ?_
      rintro e w9 ⟨rfl, hb⟩
      have HB9 := Lib.hid (HB8.out.trans (hb.mono HB8.out.size))
      have HV9 := Lib.hid (HV8.out.below hb HV8.out.low)
      have HO9 := Lib.hid (HO8.out.below hb HO8.out.low)
      clear hb C8 HB8 HV8 HO8
      have HO := HO9
      clear HO9 hq0 hqn hEE hTT hzz hWW h11 h22 h33
      go_wp2_with fail
      go_loopw [23, 24] (fun s v wr => ∃ k : Nat, k ≤ q ∧ v = .int .i64 k ∧ s = .int .i64 (wsum vs k) ∧ Below w.heap.size w wr ∧ Below w9.heap.size w9 wr) (fun _ v _ => q - (intOf v).toNat)
      case atStart => exact ⟨0, Nat.zero_le _, rfl, rfl, HB9.out, Below.refl _ _⟩
      case round =>
        clear HB9
        obtain ⟨k, hk, rfl, rfl, hbw, hbq⟩ := hrel
        have HBW := Lib.hid hbw
        have HBQ := Lib.hid hbq
        have hWB := wsum_bd HG.out k (by omega)
        have hq6 : q ≤ 6 := by have := HG.out.1; omega
        clear hbw hbq
        by_cases hlt : k < q
        · have hkl : k < vs.length := by omega
          obtain ⟨aU, eU, -, hUc⟩ := (HV9.out.below HBQ.out HV9.out.low).has.Arrival hkl
          injection eU with eU
          subst eU
          have u3 := hUc.c3
          simp only [addO, Nat.zero_add] at u3
          have hgk := (HG.out.2 k hkl).1.2.2
          have HN := Lib.hid (wsum_snoc hkl)
          obtain ⟨x, hx⟩ : ∃ x, (vs.getD k noArrival).x3 = x := ⟨_, rfl⟩
          rw [hx] at u3 HN hgk
          obtain ⟨s, hs⟩ : ∃ s, wsum vs k = s := ⟨_, rfl⟩
          rw [hs] at HN hWB ⊢
          have hk0 : (0 : Int) ≤ (k : Int) := by omega
          have hk1 : (k : Int) < (q : Int) := by omega
          clear hUc hx hs
          go_wp2_with fail
          go_roundw
          case rel => exact ⟨k + 1, by omega, by go_num, by rw [HN.out], HBW.out, HBQ.out⟩
          case measure => simp [intOf]; omega
        · obtain rfl : k = q := by omega
          have hnk : ¬ (k : Int) < (k : Int) := by omega
          obtain rfl := HZ.out
          obtain ⟨hil, hm, hw, hg, ht, hs, hup, hlo, he1, he2⟩ := HE.out
          rw [hlen] at hil hs hup he1
          obtain ⟨aU, eU, -, hUc⟩ := (HV9.out.below HBQ.out HV9.out.low).has.Arrival (k := i) (by omega)
          injection eU with eU
          subst eU
          have u2 := hUc.c2
          have u3 := hUc.c3
          simp only [addO, Nat.zero_add] at u2 u3
          obtain ⟨-, hgm, hgw⟩ := hg
          generalize (vs.getD i noArrival).x2 = mi at u2 hgm he2
          generalize (vs.getD i noArrival).x3 = wt at u3 hgw hlo
          generalize wsum vs k = s at hs hup hWB ⊢
          have hp1 : 0 ≤ W * s ∧ W * s ≤ 600000 := by
            refine ⟨Int.mul_nonneg hw.1 hs.1, ?_⟩
            have h1 := Int.mul_le_mul_of_nonneg_left hs.2 hw.1
            omega
          have hp2 : 0 ≤ W * wt ∧ W * wt ≤ 100000 := by
            refine ⟨Int.mul_nonneg hw.1 (by omega), ?_⟩
            have h1 := Int.mul_le_mul_of_nonneg_left hgw.2 hw.1
            omega
          have hp3 : 0 ≤ (T + (k : Int)) * m ∧ (T + (k : Int)) * m ≤ 720 := by
            refine ⟨Int.mul_nonneg (by omega) (by omega), ?_⟩
            have h1 := Int.mul_le_mul_of_nonneg_right (show T + (k : Int) ≤ 12 by omega) (show 0 ≤ m by omega)
            omega
          have n1 : ¬ W * s < D := by omega
          have n2 : ¬ D < W * wt := by omega
          have n3 : ¬ E < (T + (k : Int)) * m := by omega
          have n4 : ¬ E < mi + W + m := by omega
          have hi0 : (0 : Int) ≤ (i : Int) := by omega
          have hi1 : (i : Int) < (k : Int) := by omega
          have HBX := HBW
          clear hUc hup hlo he1 he2 HE HG HV9 HO HBQ HBW hWB
          go_wp2_with fail
          have D2 := Lib.hid (drawIsO_any c (HC.out.on HBX.out))
          go_wp2_with fail
          refine D2.out.mono ?_
          rintro e w20 ⟨g4, q4, c4, us, g5, q5, c5, ps, rfl, hq4, hq5, hc5, hU, hP, hb⟩
          have HB20 := Lib.hid (HBX.out.trans (hb.mono HBX.out.size))
          have HU := Lib.hid hU
          have HP := Lib.hid hP
          have C1 := Lib.hid (isOrderI_any c4 c5 hU (by omega) hP (by omega) hc5)
          obtain ⟨X, hX⟩ : ∃ X, oA us ps = X := ⟨_, rfl⟩
          rw [hX] at C1
          have HX := Lib.hid hX
          clear D2 hU hP hb HBX hX
          go_wp2_with fail
          refine C1.out.mono ?_
          rintro e w21 ⟨rfl, hb⟩
          have HB21 := Lib.hid (HB20.out.trans (hb.mono HB20.out.size))
          have C2 := Lib.hid (isOrderS_any c4 c5 (HU.out.below hb HU.out.low) (by omega) (HP.out.below hb HP.out.low) (by omega) hc5)
          rw [HX.out] at C2
          have hXX : (X == X) = true := by simp
          clear C1 hb HB20 HU HP
          go_wp2_with fail
          refine C2.out.mono ?_
          rintro e w22 ⟨rfl, hb⟩
          have HB22 := Lib.hid (HB21.out.trans (hb.mono HB21.out.size))
          clear C2 hb HB21 HX
          go_wp2_with fail
          go_ret
          exact ⟨rfl, HB22.out⟩
    · obtain ⟨rfl, hno⟩ := HNO.out hF
      clear hF HEND HNO HA1 HA2 HA3 HA4 HT HV8 HO8
      rcases hno with rfl | hno
      · have D2 := Lib.hid (drawIsO_any c (HC.out.on HB8.out))
        go_wp2_with fail
        refine D2.out.mono ?_
        rintro e w20 ⟨g4, q4, c4, us, g5, q5, c5, ps, rfl, hq4, hq5, hc5, hU, hP, hb⟩
        have HB20 := Lib.hid (HB8.out.trans (hb.mono HB8.out.size))
        have HU := Lib.hid hU
        have HP := Lib.hid hP
        have C1 := Lib.hid (isOrderI_any c4 c5 hU (by omega) hP (by omega) hc5)
        obtain ⟨X, hX⟩ : ∃ X, oA us ps = X := ⟨_, rfl⟩
        rw [hX] at C1
        have HX := Lib.hid hX
        clear D2 hU hP hb HB8 hX
        go_wp2_with fail
        refine C1.out.mono ?_
        rintro e w21 ⟨rfl, hb⟩
        have HB21 := Lib.hid (HB20.out.trans (hb.mono HB20.out.size))
        have C2 := Lib.hid (isOrderS_any c4 c5 (HU.out.below hb HU.out.low) (by omega) (HP.out.below hb HP.out.low) (by omega) hc5)
        rw [HX.out] at C2
        have hXX : (X == X) = true := by simp
        clear C1 hb HB20 HU HP
        go_wp2_with fail
        refine C2.out.mono ?_
        rintro e w22 ⟨rfl, hb⟩
        have HB22 := Lib.hid (HB21.out.trans (hb.mono HB21.out.size))
        clear C2 hb HB21 HX
        go_wp2_with fail
        go_ret
        exact ⟨rfl, HB22.out⟩
      · obtain rfl : q = 0 := by omega
        cases x1 with
        | true =>
          have D2 := Lib.hid (drawIsO_any c (HC.out.on HB8.out))
          go_wp2_with fail
          refine D2.out.mono ?_
          rintro e w20 ⟨g4, q4, c4, us, g5, q5, c5, ps, rfl, hq4, hq5, hc5, hU, hP, hb⟩
          have HB20 := Lib.hid (HB8.out.trans (hb.mono HB8.out.size))
          have HU := Lib.hid hU
          have HP := Lib.hid hP
          have C1 := Lib.hid (isOrderI_any c4 c5 hU (by omega) hP (by omega) hc5)
          obtain ⟨X, hX⟩ : ∃ X, oA us ps = X := ⟨_, rfl⟩
          rw [hX] at C1
          have HX := Lib.hid hX
          clear D2 hU hP hb HB8 hX
          go_wp2_with fail
          refine C1.out.mono ?_
          rintro e w21 ⟨rfl, hb⟩
          have HB21 := Lib.hid (HB20.out.trans (hb.mono HB20.out.size))
          have C2 := Lib.hid (isOrderS_any c4 c5 (HU.out.below hb HU.out.low) (by omega) (HP.out.below hb HP.out.low) (by omega) hc5)
          rw [HX.out] at C2
          have hXX : (X == X) = true := by simp
          clear C1 hb HB20 HU HP
          go_wp2_with fail
          refine C2.out.mono ?_
          rintro e w22 ⟨rfl, hb⟩
          have HB22 := Lib.hid (HB21.out.trans (hb.mono HB21.out.size))
          clear C2 hb HB21 HX
          go_wp2_with fail
          go_ret
          exact ⟨rfl, HB22.out⟩
        | false =>
          have D2 := Lib.hid (drawIsO_any c (HC.out.on HB8.out))
          go_wp2_with fail
          refine D2.out.mono ?_
          rintro e w20 ⟨g4, q4, c4, us, g5, q5, c5, ps, rfl, hq4, hq5, hc5, hU, hP, hb⟩
          have HB20 := Lib.hid (HB8.out.trans (hb.mono HB8.out.size))
          have HU := Lib.hid hU
          have HP := Lib.hid hP
          have C1 := Lib.hid (isOrderI_any c4 c5 hU (by omega) hP (by omega) hc5)
          obtain ⟨X, hX⟩ : ∃ X, oA us ps = X := ⟨_, rfl⟩
          rw [hX] at C1
          have HX := Lib.hid hX
          clear D2 hU hP hb HB8 hX
          go_wp2_with fail
          refine C1.out.mono ?_
          rintro e w21 ⟨rfl, hb⟩
          have HB21 := Lib.hid (HB20.out.trans (hb.mono HB20.out.size))
          have C2 := Lib.hid (isOrderS_any c4 c5 (HU.out.below hb HU.out.low) (by omega) (HP.out.below hb HP.out.low) (by omega) hc5)
          rw [HX.out] at C2
          have hXX : (X == X) = true := by simp
          clear C1 hb HB20 HU HP
          go_wp2_with fail
          refine C2.out.mono ?_
          rintro e w22 ⟨rfl, hb⟩
          have HB22 := Lib.hid (HB21.out.trans (hb.mono HB21.out.size))
          clear C2 hb HB21 HX
          go_wp2_with fail
          go_ret
          exact ⟨rfl, HB22.out⟩
theorem own : ownKnob Try.prog.godebug = none := by kernel_rfl
theorem laidOut : laidOutB Try.prog = true := by kernel_rfl

set_option maxRecDepth 100000 in
theorem lifted (os : Os) (started : os.Started) (H : Type) (enc : TypeId × Value → H) :
    ReturnsInHanded {} Try.checked os 3 .any (Rows.fnLockageEndsSpec.pre6 enc Try.prog Try.f3 Rows.fnLockageEndsRow.domain false) (Rows.fnLockageEndsSpec.post enc Try.prog Try.f3 false true false false) := by
  refine returnsInHanded_of_change (C := Try.checked) own started (by kernel_rfl) Try.func3
    (ChangeSpec.witness6 (enc := enc) (C := Try.checked) false ⟨#[], #[.slice none 0 0], []⟩ 8 (by kernel_rfl) (by kernel_rfl) (by kernel_rfl) (by kernel_rfl)) ?_
  intro W base args ds gs before hval0 hW hcnd _
  have hval : ∀ (j : Nat) t v, Try.f3.params[j]? = some t → args[j]? = some v → Value.okWide Try.prog W .any base t v := hval0
  have hW' := hW
  obtain ⟨p, q, hA0, hV, rfl, hfz, hnd⟩ := hW
  have hA : DataW.TrodAll enc Try.prog W 0 (fun _ => true) true Try.f3.params.toList args.toList ds p := hA0
  rw [Try.params3] at hA hval
  obtain ⟨v0, vs0, d0, ds0, p0, q0, hargs, rfl, rfl, h0, r0⟩ := trodAll_cons hA
  obtain ⟨rfl, rfl, rfl⟩ := trodAll_nil r0
  obtain rfl : args = #[v0] := by cases args; simp_all
  obtain ⟨rfl, rfl⟩ := trodVars_none hV
  obtain ⟨a0, len0, cap0, rfl⟩ := okWide_slice Try.underlying22 (hval 0 22 v0 rfl rfl)
  have k0 := h0
  have lt0 : ∀ x ∈ p0, x.block < W.heap.size := by obtain ⟨m, hm⟩ := k0; exact DataW.trod_lt m _ _ _ hm
  obtain ⟨z0, w0⟩ : ∃ zs, IsInts .u8 W a0 len0 zs := by
    obtain ⟨fuel, hf⟩ := h0
    rcases open_ints Try.underlying22 Try.underlying5 (by kernel_rfl) hf with ⟨hcs, _⟩ | ⟨x, l, c, zs, hcs, _, hl, hm, hz, _, hcell, hwz⟩
    · simp [Value.cells] at hcs
      obtain ⟨rfl, rfl, rfl⟩ := hcs
      exact ⟨[], isInts_nil _ W⟩
    · simp [Value.cells] at hcs
      obtain ⟨rfl, rfl, rfl⟩ := hcs
      exact ⟨_, isInts_some hl hm (by simpa using hz) hcell hwz⟩
  clear hA0 hval0
  refine (walk a0 len0 cap0 z0 W w0).mono fun e W' ⟨he, bel⟩ => ?_
  subst he
  exact ⟨_, rfl, _, _, _, [], _, [], hW', trodAll_mk1 (shut_bool Try.underlying4 _), (trodAll_cons_mk (Below.trod laidOut (by kernel_rfl) (of_decide_eq_true (by kernel_rfl)) k0 bel lt0) trodAll_mk0), rfl, bel.frame _, fun h => by cases h⟩

theorem over : Rows.fnLockageEndsRow.holds Try.pinned (OpenSpec.ofChange Rows.fnLockageEndsSpec) :=
  OpenClaim.holds_of_wide 3 Try.f3 rfl rfl rfl rfl rfl rfl rfl ⟨rfl, rfl, rfl, rfl, rfl⟩ rfl rfl rfl rfl rfl (by kernel_rfl) Try.func3 (by kernel_rfl)
    (of_decide_eq_true (by kernel_rfl)) (by unfold Func.isWrapper; first | (rw [if_pos (by decide +kernel)]; kernel_rfl) | (rw [if_neg (by decide +kernel)]; exact ⟨rfl, rfl⟩))
    (fun os started H enc _ => lifted os started H enc)

/-- The statement. -/
theorem proved : Rows.FnLockageEndsSaid := over
end Go.Proofs.Ytjlgabhkpoonkaa.fnLockageEnds
