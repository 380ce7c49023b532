/- FnBounds holds: the lower bound is at most the delay of every order, and a proven order is a best one; at every list of bytes. -/
import Derived.Test.YtkdolpgnaabdaaaBdD
import Derived.Test.YtkdolpgnaabdaaaBdC
import Derived.Test.YtkdolpgnaabdaaaLkU
import Derived.Test.YtkdolpgnaabdaaaBig
import Derived.Test.YtkdolpgnaabdaaaSt0
import Derived.OpenShut
import Derived.ShutString
import Derived.ChangeOld
import Derived.WalkLawsBesides
import Derived.Lib.SmallJoins
import Derived.Deep.RegionHeld3
namespace Go.Proofs.Ytkdolpgnaabdaaa.fnBounds
open Go.ChangeShapes Go.WideShapes Go.ChangeAt Go.RowKit
open Go.ChangeMaps (open_string shut_string)
set_option linter.unusedVariables false
set_option linter.unusedSimpArgs false

theorem ownB_is {w : World} {base n c : Nat} {A : Option Addr} {L : List Int} (h : w.ownsRow base 3 1 (.slice A n c) n (L.map (.int .i64))) : IsIs w w.heap.size A n L ∧ n ≤ c := by
  refine ⟨⟨by have := h.1; simpa using this, Nat.le_refl _, Has.of_own h⟩, ?_⟩
  rcases h.2 with ⟨h1, h2⟩ | ⟨g, cap, cur, h1, -, -, h2, -⟩
  · cases h1; omega
  · injection h1 with _ _ h3; omega
/-- What the law asks where there is an answer. -/
theorem yes_all {vs : List TArrival} {hi : Bool} {m z a q : Int} {x1 x2 x3 : Bool} {L : List Int} {lst : Int} {x4 : Bool} (h1 : LowA vs hi m z x1) (h2 : AloneA vs hi m a x2) (h3 : QueueA vs m q x3) (h4 : BestA vs hi m L lst x4) :
    x4 = x1 ∧ (x1 = true → ¬ lst < z ∧ ¬ z < a ∧ ¬ z < q ∧ (z = a ∨ z = q) ∧ gO vs m L = true ∧ GapA vs hi m L (lst - z) true ∧ (0 ≤ z ∧ z ≤ 600000) ∧ (0 ≤ lst ∧ lst ≤ 600000)) := by
  obtain ⟨hm, hv⟩ := low_of h2 h3 h1
  cases e : gM vs m with
  | false =>
    rw [best_no e h4, h1.1, e]
    exact ⟨rfl, fun k => nomatch k⟩
  | true =>
    obtain ⟨k1, k2, k3, k4, k5⟩ := best_yes e h4
    have hx := h1.1
    rw [e] at hx
    have hz := h1.2
    rw [if_pos e] at hz
    obtain ⟨ho, hmm⟩ := (gO_iff _ _ _).1 k2
    have hd := dly_bd hi hmm ho
    have hl := lowL_all hi e
    refine ⟨k1.trans hx.symm, fun _ => ⟨by omega, by omega, by omega, by omega, k2, ⟨k2.symm, by rw [if_pos k2, ← k3, hz]⟩, by omega, by omega⟩⟩

set_option maxRecDepth 100000 in
set_option maxHeartbeats 16000000 in
theorem walk (A : Option Addr) (n c : Nat) (zs : List Int) (w : World) (hI : IsInts .u8 w A n zs) :
    Calls Try.prog 3 #[.slice A n c] w fun e w' => e = .returned (.bool true) ∧ Below w.heap.size w w' := by
  by_cases hbig : 65536 < n
  · have CB := Lib.hid (bigL_yes A n c w hbig hI.2.1)
    clear hI
    go_enter Try.func3, Try.ntmps3
    go_wp2_with fail
    refine CB.out.mono ?_
    rintro e w1 ⟨rfl, rfl⟩
    go_wp2_with fail
    go_ret
    exact ⟨rfl, Below.refl _ _⟩
  · have CB := Lib.hid (bigL_no A n c w (by omega))
    have HC := Lib.hid (Code_.of hI (by omega))
    have D1 := Lib.hid (drawLow_any c HC.out)
    clear hI hbig
    go_enter Try.func3, Try.ntmps3
    go_wp2_with fail
    refine CB.out.mono ?_
    rintro e w1 ⟨rfl, rfl⟩
    clear CB
    go_wp2_with fail
    refine D1.out.mono ?_
    rintro e w1 ⟨g1, q, c1, vs, hi, m, rfl, hq, hcq, hV, hb⟩
    have HB1 := Lib.hid hb
    have HV1 := Lib.hid hV
    obtain ⟨z, x, hA1⟩ := lowA_ex vs hi m
    obtain ⟨a, x2, hA2⟩ := aloneA_ex vs hi m
    obtain ⟨u, x3, hA3⟩ := queueA_ex vs m
    obtain ⟨L, lst, x4, hA4⟩ := bestA_ex vs hi m
    obtain ⟨rfl, hyes⟩ := yes_all hA1 hA2 hA3 hA4
    have HYES := Lib.hid hyes
    have HA1 := Lib.hid hA1
    have HA2 := Lib.hid hA2
    have HA3 := Lib.hid hA3
    have HA4 := Lib.hid hA4
    have hL6 := hA4.len
    have hzz : (z != z) = false := by simp
    have haa : (a != a) = false := by simp
    have huu : (u != u) = false := by simp
    have h11 : (x4 != x4) = false := by simp
    have h22 : (x2 != x2) = false := by simp
    have h33 : (x3 != x3) = false := by simp
    have C1 := Lib.hid (lowI_any c1 HV1.out (by omega) hi m z x4 hA1)
    clear hb D1 hV hA1 hA2 hA3 hA4 hyes
    go_wp2_with fail
    refine C1.out.mono ?_
    rintro e w2 ⟨rfl, hb⟩
    have HB2 := Lib.hid (HB1.out.trans (hb.mono HB1.out.size))
    have HV2 := Lib.hid (HV1.out.below hb HV1.out.low)
    clear hb C1 HB1 HV1
    have C2 := Lib.hid (lowS_any c1 HV2.out (by omega) hcq hi m z x4 HA1.out)
    go_wp2_with fail
    refine C2.out.mono ?_
    rintro e w3 ⟨rfl, hb⟩
    have HB3 := Lib.hid (HB2.out.trans (hb.mono HB2.out.size))
    have HV3 := Lib.hid (HV2.out.below hb HV2.out.low)
    clear hb C2 HB2 HV2
    have C3 := Lib.hid (aloneI_any c1 HV3.out (by omega) hi m a x2 HA2.out)
    go_wp2_with fail
    refine C3.out.mono ?_
    rintro e w4 ⟨rfl, hb⟩
    have HB4 := Lib.hid (HB3.out.trans (hb.mono HB3.out.size))
    have HV4 := Lib.hid (HV3.out.below hb HV3.out.low)
    clear hb C3 HB3 HV3
    have C4 := Lib.hid (queueI_any c1 HV4.out (by omega) m u x3 HA3.out)
    go_wp2_with fail
    refine C4.out.mono ?_
    rintro e w5 ⟨rfl, hb⟩
    have HB5 := Lib.hid (HB4.out.trans (hb.mono HB4.out.size))
    have HV5 := Lib.hid (HV4.out.below hb HV4.out.low)
    clear hb C4 HB4 HV4
    have C5 := Lib.hid (aloneS_any c1 HV5.out (by omega) hcq hi m a x2 HA2.out)
    go_wp2_with fail
    refine C5.out.mono ?_
    rintro e w6 ⟨rfl, hb⟩
    have HB6 := Lib.hid (HB5.out.trans (hb.mono HB5.out.size))
    have HV6 := Lib.hid (HV5.out.below hb HV5.out.low)
    clear hb C5 HB5 HV5
    have C6 := Lib.hid (queueS_any c1 HV6.out (by omega) m u x3 HA3.out)
    go_wp2_with fail
    refine C6.out.mono ?_
    rintro e w7 ⟨rfl, hb⟩
    have HB7 := Lib.hid (HB6.out.trans (hb.mono HB6.out.size))
    have HV7 := Lib.hid (HV6.out.below hb HV6.out.low)
    clear hb C6 HB6 HV6
    obtain ⟨l, hl⟩ : ∃ l, L.length = l := ⟨_, rfl⟩
    rw [hl] at hL6
    have C7 := Lib.hid (bestI_any c1 HV7.out (by omega) hi m L lst x4 HA4.out l hl)
    clear hl HA1 HA2 HA3 HA4
    go_wp2_with fail
    refine C7.out.mono ?_
    rintro e w7 ⟨v, rfl, ho, hb, -⟩
    obtain ⟨A9, c9, rfl⟩ := own_form2 ho
    obtain ⟨hL, hc9⟩ := ownB_is ho
    have HL7 := Lib.hid hL
    have HB7' := Lib.hid (HB7.out.trans (hb.mono HB7.out.size))
    have HV7' := Lib.hid (HV7.out.below hb HV7.out.low)
    clear hb C7 HB7 HV7 ho hL
    have HB7 := HB7'
    have HV7 := HV7'
    clear HB7' HV7'
    cases x4 with
    | false =>
      clear HYES HL7 HV7
      go_wp2_with fail
      have D2 := Lib.hid (drawV_any c (HC.out.on HB7.out))
      go_wp2_with fail
      refine D2.out.mono ?_
      rintro e w20 ⟨g4, q4, c4, us, hj, mj, g5, q5, c5, ps, rfl, hq4, hcq4, hq5, hc5, hU, hP, hb⟩
      have HB20 := Lib.hid (HB7.out.trans (hb.mono HB7.out.size))
      have HU := Lib.hid hU
      have HP := Lib.hid hP
      obtain ⟨pv, fi, hA⟩ := provA_ex us hj mj ps
      have HA := Lib.hid hA
      have C1 := Lib.hid (provI_any c4 c5 hU (by omega) hP (by omega) hc5 hj mj pv fi hA)
      have hpp : (pv != pv) = false := by simp
      have hff : (fi != fi) = false := by simp
      clear D2 hU hP hb HB7 hA
      go_wp2_with fail
      refine C1.out.mono ?_
      rintro e w21 ⟨rfl, hb⟩
      have HB21 := Lib.hid (HB20.out.trans (hb.mono HB20.out.size))
      have HU21 := Lib.hid (HU.out.below hb HU.out.low)
      have HP21 := Lib.hid (HP.out.below hb HP.out.low)
      have C2 := Lib.hid (provS_any c4 c5 HU21.out (by omega) hcq4 HP21.out (by omega) hc5 hj mj pv fi HA.out)
      clear C1 hb HB20 HU HP
      go_wp2_with fail
      refine C2.out.mono ?_
      rintro e w22 ⟨rfl, hb⟩
      have HB22 := Lib.hid (HB21.out.trans (hb.mono HB21.out.size))
      have HU22 := Lib.hid (HU21.out.below hb HU21.out.low)
      have HP22 := Lib.hid (HP21.out.below hb HP21.out.low)
      clear C2 hb HB21 HU21 HP21
      cases pv with
      | true =>
        obtain ⟨d, y, hD⟩ := delayA_ex us hj mj ps
        obtain ⟨L2, z2, x2, hB⟩ := bestA_ex us hj mj
        obtain ⟨rfl, rfl, rfl⟩ := prov_best HA.out rfl hD hB
        have HBA := Lib.hid hB
        have hdd : (d != d) = false := by simp
        have C3 := Lib.hid (delayI_any c4 c5 HU22.out (by omega) HP22.out (by omega) hc5 hj mj d true hD)
        clear HA hD hB
        go_wp2_with fail
        refine C3.out.mono ?_
        rintro e w23 ⟨rfl, hb⟩
        have HB23 := Lib.hid (HB22.out.trans (hb.mono HB22.out.size))
        have C4 := Lib.hid (bestI_any c4 (HU22.out.below hb HU22.out.low) (by omega) hj mj L2 d true HBA.out L2.length rfl)
        clear C3 hb HB22 HU22 HP22 HBA
        go_wp2_with fail
        refine C4.out.mono ?_
        rintro e w24 ⟨v9, rfl, -, hb, -⟩
        have HB24 := Lib.hid (HB23.out.trans (hb.mono HB23.out.size))
        clear C4 hb HB23
        go_wp2_with fail
        have D3 := Lib.hid (drawGap_any c (HC.out.on HB24.out))
        go_wp2_with fail
        refine D3.out.mono ?_
        rintro e w30 ⟨g6, q6, c6, xs, hk, mk, g7, q7, c7, rs, rfl, hq6, hcq6, hq7, hc7, hX, hR, hb⟩
        have HB30 := Lib.hid (HB24.out.trans (hb.mono HB24.out.size))
        have HX := Lib.hid hX
        have HR := Lib.hid hR
        obtain ⟨gz, gx, hG⟩ := gapA_ex xs hk mk rs
        have hge := gap_all hG
        have C5 := Lib.hid (gapI_any c6 c7 hX (by omega) hR (by omega) hc7 hk mk gz gx hG)
        have HG := Lib.hid hG
        have hg1 : (gz == gz) = true := by simp
        have hg2 : (gx == gx) = true := by simp
        clear D3 hX hR hb HB24 hG
        go_wp2_with fail
        refine C5.out.mono ?_
        rintro e w31 ⟨rfl, hb⟩
        have HB31 := Lib.hid (HB30.out.trans (hb.mono HB30.out.size))
        have C6 := Lib.hid (gapS_any c6 c7 (HX.out.below hb HX.out.low) (by omega) hcq6 (HR.out.below hb HR.out.low) (by omega) hc7 hk mk gz gx HG.out)
        clear C5 hb HB30 HX HR HG
        go_wp2_with fail
        refine C6.out.mono ?_
        rintro e w32 ⟨rfl, hb⟩
        have HB32 := Lib.hid (HB31.out.trans (hb.mono HB31.out.size))
        clear C6 hb HB31
        go_wp2_with fail
        go_ret
        exact ⟨rfl, HB32.out⟩
      | false =>
        clear HA HU22 HP22
        have D3 := Lib.hid (drawGap_any c (HC.out.on HB22.out))
        go_wp2_with fail
        refine D3.out.mono ?_
        rintro e w30 ⟨g6, q6, c6, xs, hk, mk, g7, q7, c7, rs, rfl, hq6, hcq6, hq7, hc7, hX, hR, hb⟩
        have HB30 := Lib.hid (HB22.out.trans (hb.mono HB22.out.size))
        have HX := Lib.hid hX
        have HR := Lib.hid hR
        obtain ⟨gz, gx, hG⟩ := gapA_ex xs hk mk rs
        have hge := gap_all hG
        have C5 := Lib.hid (gapI_any c6 c7 hX (by omega) hR (by omega) hc7 hk mk gz gx hG)
        have HG := Lib.hid hG
        have hg1 : (gz == gz) = true := by simp
        have hg2 : (gx == gx) = true := by simp
        clear D3 hX hR hb HB22 hG
        go_wp2_with fail
        refine C5.out.mono ?_
        rintro e w31 ⟨rfl, hb⟩
        have HB31 := Lib.hid (HB30.out.trans (hb.mono HB30.out.size))
        have C6 := Lib.hid (gapS_any c6 c7 (HX.out.below hb HX.out.low) (by omega) hcq6 (HR.out.below hb HR.out.low) (by omega) hc7 hk mk gz gx HG.out)
        clear C5 hb HB30 HX HR HG
        go_wp2_with fail
        refine C6.out.mono ?_
        rintro e w32 ⟨rfl, hb⟩
        have HB32 := Lib.hid (HB31.out.trans (hb.mono HB31.out.size))
        clear C6 hb HB31
        go_wp2_with fail
        go_ret
        exact ⟨rfl, HB32.out⟩
    | true =>
      obtain ⟨hn1, hn2, hn3, hor, hgo, hgap, hzb, hlb⟩ := HYES.out rfl
      have HG := Lib.hid hgap
      clear HYES hgap hgo
      rcases hor with rfl | rfl
      · go_wp2_with fail
        have C7 := Lib.hid (gapI_any c1 c9 HV7.out (by omega) HL7.out (by omega) hc9 hi m (lst - z) true HG.out)
        go_wp2_with fail
        refine C7.out.mono ?_
        rintro e w8 ⟨rfl, hb⟩
        have HB8 := Lib.hid (HB7.out.trans (hb.mono HB7.out.size))
        have HV8 := Lib.hid (HV7.out.below hb HV7.out.low)
        have HL8 := Lib.hid (HL7.out.below hb HL7.out.low)
        clear hb C7 HB7 HV7 HL7
        have C8 := Lib.hid (provI_any c1 c9 HV8.out (by omega) HL8.out (by omega) hc9 hi m (true && decide (lst - z = 0)) true ⟨_, HG.out, rfl⟩)
        have hgg : (lst - z != lst - z) = false := by simp
        by_cases h0 : lst - z = 0
        · rw [decide_eq_true h0] at C8
          have h00 : (lst - z == 0) = true := by simpa using h0
          clear h0
          go_wp2_with fail
          refine C8.out.mono ?_
          rintro e w9 ⟨rfl, hb⟩
          have HB9 := Lib.hid (HB8.out.trans (hb.mono HB8.out.size))
          clear hb C8 HB8 HV8 HL8 HG
          go_wp2_with fail
          have D2 := Lib.hid (drawV_any c (HC.out.on HB9.out))
          go_wp2_with fail
          refine D2.out.mono ?_
          rintro e w20 ⟨g4, q4, c4, us, hj, mj, g5, q5, c5, ps, rfl, hq4, hcq4, hq5, hc5, hU, hP, hb⟩
          have HB20 := Lib.hid (HB9.out.trans (hb.mono HB9.out.size))
          have HU := Lib.hid hU
          have HP := Lib.hid hP
          obtain ⟨pv, fi, hA⟩ := provA_ex us hj mj ps
          have HA := Lib.hid hA
          have C1 := Lib.hid (provI_any c4 c5 hU (by omega) hP (by omega) hc5 hj mj pv fi hA)
          have hpp : (pv != pv) = false := by simp
          have hff : (fi != fi) = false := by simp
          clear D2 hU hP hb HB9 hA
          go_wp2_with fail
          refine C1.out.mono ?_
          rintro e w21 ⟨rfl, hb⟩
          have HB21 := Lib.hid (HB20.out.trans (hb.mono HB20.out.size))
          have HU21 := Lib.hid (HU.out.below hb HU.out.low)
          have HP21 := Lib.hid (HP.out.below hb HP.out.low)
          have C2 := Lib.hid (provS_any c4 c5 HU21.out (by omega) hcq4 HP21.out (by omega) hc5 hj mj pv fi HA.out)
          clear C1 hb HB20 HU HP
          go_wp2_with fail
          refine C2.out.mono ?_
          rintro e w22 ⟨rfl, hb⟩
          have HB22 := Lib.hid (HB21.out.trans (hb.mono HB21.out.size))
          have HU22 := Lib.hid (HU21.out.below hb HU21.out.low)
          have HP22 := Lib.hid (HP21.out.below hb HP21.out.low)
          clear C2 hb HB21 HU21 HP21
          cases pv with
          | true =>
            obtain ⟨d, y, hD⟩ := delayA_ex us hj mj ps
            obtain ⟨L2, z2, x2, hB⟩ := bestA_ex us hj mj
            obtain ⟨rfl, rfl, rfl⟩ := prov_best HA.out rfl hD hB
            have HBA := Lib.hid hB
            have hdd : (d != d) = false := by simp
            have C3 := Lib.hid (delayI_any c4 c5 HU22.out (by omega) HP22.out (by omega) hc5 hj mj d true hD)
            clear HA hD hB
            go_wp2_with fail
            refine C3.out.mono ?_
            rintro e w23 ⟨rfl, hb⟩
            have HB23 := Lib.hid (HB22.out.trans (hb.mono HB22.out.size))
            have C4 := Lib.hid (bestI_any c4 (HU22.out.below hb HU22.out.low) (by omega) hj mj L2 d true HBA.out L2.length rfl)
            clear C3 hb HB22 HU22 HP22 HBA
            go_wp2_with fail
            refine C4.out.mono ?_
            rintro e w24 ⟨v9, rfl, -, hb, -⟩
            have HB24 := Lib.hid (HB23.out.trans (hb.mono HB23.out.size))
            clear C4 hb HB23
            go_wp2_with fail
            have D3 := Lib.hid (drawGap_any c (HC.out.on HB24.out))
            go_wp2_with fail
            refine D3.out.mono ?_
            rintro e w30 ⟨g6, q6, c6, xs, hk, mk, g7, q7, c7, rs, rfl, hq6, hcq6, hq7, hc7, hX, hR, hb⟩
            have HB30 := Lib.hid (HB24.out.trans (hb.mono HB24.out.size))
            have HX := Lib.hid hX
            have HR := Lib.hid hR
            obtain ⟨gz, gx, hG⟩ := gapA_ex xs hk mk rs
            have hge := gap_all hG
            have C5 := Lib.hid (gapI_any c6 c7 hX (by omega) hR (by omega) hc7 hk mk gz gx hG)
            have HG := Lib.hid hG
            have hg1 : (gz == gz) = true := by simp
            have hg2 : (gx == gx) = true := by simp
            clear D3 hX hR hb HB24 hG
            go_wp2_with fail
            refine C5.out.mono ?_
            rintro e w31 ⟨rfl, hb⟩
            have HB31 := Lib.hid (HB30.out.trans (hb.mono HB30.out.size))
            have C6 := Lib.hid (gapS_any c6 c7 (HX.out.below hb HX.out.low) (by omega) hcq6 (HR.out.below hb HR.out.low) (by omega) hc7 hk mk gz gx HG.out)
            clear C5 hb HB30 HX HR HG
            go_wp2_with fail
            refine C6.out.mono ?_
            rintro e w32 ⟨rfl, hb⟩
            have HB32 := Lib.hid (HB31.out.trans (hb.mono HB31.out.size))
            clear C6 hb HB31
            go_wp2_with fail
            go_ret
            exact ⟨rfl, HB32.out⟩
          | false =>
            clear HA HU22 HP22
            have D3 := Lib.hid (drawGap_any c (HC.out.on HB22.out))
            go_wp2_with fail
            refine D3.out.mono ?_
            rintro e w30 ⟨g6, q6, c6, xs, hk, mk, g7, q7, c7, rs, rfl, hq6, hcq6, hq7, hc7, hX, hR, hb⟩
            have HB30 := Lib.hid (HB22.out.trans (hb.mono HB22.out.size))
            have HX := Lib.hid hX
            have HR := Lib.hid hR
            obtain ⟨gz, gx, hG⟩ := gapA_ex xs hk mk rs
            have hge := gap_all hG
            have C5 := Lib.hid (gapI_any c6 c7 hX (by omega) hR (by omega) hc7 hk mk gz gx hG)
            have HG := Lib.hid hG
            have hg1 : (gz == gz) = true := by simp
            have hg2 : (gx == gx) = true := by simp
            clear D3 hX hR hb HB22 hG
            go_wp2_with fail
            refine C5.out.mono ?_
            rintro e w31 ⟨rfl, hb⟩
            have HB31 := Lib.hid (HB30.out.trans (hb.mono HB30.out.size))
            have C6 := Lib.hid (gapS_any c6 c7 (HX.out.below hb HX.out.low) (by omega) hcq6 (HR.out.below hb HR.out.low) (by omega) hc7 hk mk gz gx HG.out)
            clear C5 hb HB30 HX HR HG
            go_wp2_with fail
            refine C6.out.mono ?_
            rintro e w32 ⟨rfl, hb⟩
            have HB32 := Lib.hid (HB31.out.trans (hb.mono HB31.out.size))
            clear C6 hb HB31
            go_wp2_with fail
            go_ret
            exact ⟨rfl, HB32.out⟩
        · rw [decide_eq_false h0] at C8
          have h00 : (lst - z == 0) = false := by simpa using h0
          clear h0
          go_wp2_with fail
          refine C8.out.mono ?_
          rintro e w9 ⟨rfl, hb⟩
          have HB9 := Lib.hid (HB8.out.trans (hb.mono HB8.out.size))
          clear hb C8 HB8 HV8 HL8 HG
          go_wp2_with fail
          have D2 := Lib.hid (drawV_any c (HC.out.on HB9.out))
          go_wp2_with fail
          refine D2.out.mono ?_
          rintro e w20 ⟨g4, q4, c4, us, hj, mj, g5, q5, c5, ps, rfl, hq4, hcq4, hq5, hc5, hU, hP, hb⟩
          have HB20 := Lib.hid (HB9.out.trans (hb.mono HB9.out.size))
          have HU := Lib.hid hU
          have HP := Lib.hid hP
          obtain ⟨pv, fi, hA⟩ := provA_ex us hj mj ps
          have HA := Lib.hid hA
          have C1 := Lib.hid (provI_any c4 c5 hU (by omega) hP (by omega) hc5 hj mj pv fi hA)
          have hpp : (pv != pv) = false := by simp
          have hff : (fi != fi) = false := by simp
          clear D2 hU hP hb HB9 hA
          go_wp2_with fail
          refine C1.out.mono ?_
          rintro e w21 ⟨rfl, hb⟩
          have HB21 := Lib.hid (HB20.out.trans (hb.mono HB20.out.size))
          have HU21 := Lib.hid (HU.out.below hb HU.out.low)
          have HP21 := Lib.hid (HP.out.below hb HP.out.low)
          have C2 := Lib.hid (provS_any c4 c5 HU21.out (by omega) hcq4 HP21.out (by omega) hc5 hj mj pv fi HA.out)
          clear C1 hb HB20 HU HP
          go_wp2_with fail
          refine C2.out.mono ?_
          rintro e w22 ⟨rfl, hb⟩
          have HB22 := Lib.hid (HB21.out.trans (hb.mono HB21.out.size))
          have HU22 := Lib.hid (HU21.out.below hb HU21.out.low)
          have HP22 := Lib.hid (HP21.out.below hb HP21.out.low)
          clear C2 hb HB21 HU21 HP21
          cases pv with
          | true =>
            obtain ⟨d, y, hD⟩ := delayA_ex us hj mj ps
            obtain ⟨L2, z2, x2, hB⟩ := bestA_ex us hj mj
            obtain ⟨rfl, rfl, rfl⟩ := prov_best HA.out rfl hD hB
            have HBA := Lib.hid hB
            have hdd : (d != d) = false := by simp
            have C3 := Lib.hid (delayI_any c4 c5 HU22.out (by omega) HP22.out (by omega) hc5 hj mj d true hD)
            clear HA hD hB
            go_wp2_with fail
            refine C3.out.mono ?_
            rintro e w23 ⟨rfl, hb⟩
            have HB23 := Lib.hid (HB22.out.trans (hb.mono HB22.out.size))
            have C4 := Lib.hid (bestI_any c4 (HU22.out.below hb HU22.out.low) (by omega) hj mj L2 d true HBA.out L2.length rfl)
            clear C3 hb HB22 HU22 HP22 HBA
            go_wp2_with fail
            refine C4.out.mono ?_
            rintro e w24 ⟨v9, rfl, -, hb, -⟩
            have HB24 := Lib.hid (HB23.out.trans (hb.mono HB23.out.size))
            clear C4 hb HB23
            go_wp2_with fail
            have D3 := Lib.hid (drawGap_any c (HC.out.on HB24.out))
            go_wp2_with fail
            refine D3.out.mono ?_
            rintro e w30 ⟨g6, q6, c6, xs, hk, mk, g7, q7, c7, rs, rfl, hq6, hcq6, hq7, hc7, hX, hR, hb⟩
            have HB30 := Lib.hid (HB24.out.trans (hb.mono HB24.out.size))
            have HX := Lib.hid hX
            have HR := Lib.hid hR
            obtain ⟨gz, gx, hG⟩ := gapA_ex xs hk mk rs
            have hge := gap_all hG
            have C5 := Lib.hid (gapI_any c6 c7 hX (by omega) hR (by omega) hc7 hk mk gz gx hG)
            have HG := Lib.hid hG
            have hg1 : (gz == gz) = true := by simp
            have hg2 : (gx == gx) = true := by simp
            clear D3 hX hR hb HB24 hG
            go_wp2_with fail
            refine C5.out.mono ?_
            rintro e w31 ⟨rfl, hb⟩
            have HB31 := Lib.hid (HB30.out.trans (hb.mono HB30.out.size))
            have C6 := Lib.hid (gapS_any c6 c7 (HX.out.below hb HX.out.low) (by omega) hcq6 (HR.out.below hb HR.out.low) (by omega) hc7 hk mk gz gx HG.out)
            clear C5 hb HB30 HX HR HG
            go_wp2_with fail
            refine C6.out.mono ?_
            rintro e w32 ⟨rfl, hb⟩
            have HB32 := Lib.hid (HB31.out.trans (hb.mono HB31.out.size))
            clear C6 hb HB31
            go_wp2_with fail
            go_ret
            exact ⟨rfl, HB32.out⟩
          | false =>
            clear HA HU22 HP22
            have D3 := Lib.hid (drawGap_any c (HC.out.on HB22.out))
            go_wp2_with fail
            refine D3.out.mono ?_
            rintro e w30 ⟨g6, q6, c6, xs, hk, mk, g7, q7, c7, rs, rfl, hq6, hcq6, hq7, hc7, hX, hR, hb⟩
            have HB30 := Lib.hid (HB22.out.trans (hb.mono HB22.out.size))
            have HX := Lib.hid hX
            have HR := Lib.hid hR
            obtain ⟨gz, gx, hG⟩ := gapA_ex xs hk mk rs
            have hge := gap_all hG
            have C5 := Lib.hid (gapI_any c6 c7 hX (by omega) hR (by omega) hc7 hk mk gz gx hG)
            have HG := Lib.hid hG
            have hg1 : (gz == gz) = true := by simp
            have hg2 : (gx == gx) = true := by simp
            clear D3 hX hR hb HB22 hG
            go_wp2_with fail
            refine C5.out.mono ?_
            rintro e w31 ⟨rfl, hb⟩
            have HB31 := Lib.hid (HB30.out.trans (hb.mono HB30.out.size))
            have C6 := Lib.hid (gapS_any c6 c7 (HX.out.below hb HX.out.low) (by omega) hcq6 (HR.out.below hb HR.out.low) (by omega) hc7 hk mk gz gx HG.out)
            clear C5 hb HB30 HX HR HG
            go_wp2_with fail
            refine C6.out.mono ?_
            rintro e w32 ⟨rfl, hb⟩
            have HB32 := Lib.hid (HB31.out.trans (hb.mono HB31.out.size))
            clear C6 hb HB31
            go_wp2_with fail
            go_ret
            exact ⟨rfl, HB32.out⟩
      · by_cases hza : z = a
        · subst hza
          go_wp2_with fail
          have C7 := Lib.hid (gapI_any c1 c9 HV7.out (by omega) HL7.out (by omega) hc9 hi m (lst - z) true HG.out)
          go_wp2_with fail
          refine C7.out.mono ?_
          rintro e w8 ⟨rfl, hb⟩
          have HB8 := Lib.hid (HB7.out.trans (hb.mono HB7.out.size))
          have HV8 := Lib.hid (HV7.out.below hb HV7.out.low)
          have HL8 := Lib.hid (HL7.out.below hb HL7.out.low)
          clear hb C7 HB7 HV7 HL7
          have C8 := Lib.hid (provI_any c1 c9 HV8.out (by omega) HL8.out (by omega) hc9 hi m (true && decide (lst - z = 0)) true ⟨_, HG.out, rfl⟩)
          have hgg : (lst - z != lst - z) = false := by simp
          by_cases h0 : lst - z = 0
          · rw [decide_eq_true h0] at C8
            have h00 : (lst - z == 0) = true := by simpa using h0
            clear h0
            go_wp2_with fail
            refine C8.out.mono ?_
            rintro e w9 ⟨rfl, hb⟩
            have HB9 := Lib.hid (HB8.out.trans (hb.mono HB8.out.size))
            clear hb C8 HB8 HV8 HL8 HG
            go_wp2_with fail
            have D2 := Lib.hid (drawV_any c (HC.out.on HB9.out))
            go_wp2_with fail
            refine D2.out.mono ?_
            rintro e w20 ⟨g4, q4, c4, us, hj, mj, g5, q5, c5, ps, rfl, hq4, hcq4, hq5, hc5, hU, hP, hb⟩
            have HB20 := Lib.hid (HB9.out.trans (hb.mono HB9.out.size))
            have HU := Lib.hid hU
            have HP := Lib.hid hP
            obtain ⟨pv, fi, hA⟩ := provA_ex us hj mj ps
            have HA := Lib.hid hA
            have C1 := Lib.hid (provI_any c4 c5 hU (by omega) hP (by omega) hc5 hj mj pv fi hA)
            have hpp : (pv != pv) = false := by simp
            have hff : (fi != fi) = false := by simp
            clear D2 hU hP hb HB9 hA
            go_wp2_with fail
            refine C1.out.mono ?_
            rintro e w21 ⟨rfl, hb⟩
            have HB21 := Lib.hid (HB20.out.trans (hb.mono HB20.out.size))
            have HU21 := Lib.hid (HU.out.below hb HU.out.low)
            have HP21 := Lib.hid (HP.out.below hb HP.out.low)
            have C2 := Lib.hid (provS_any c4 c5 HU21.out (by omega) hcq4 HP21.out (by omega) hc5 hj mj pv fi HA.out)
            clear C1 hb HB20 HU HP
            go_wp2_with fail
            refine C2.out.mono ?_
            rintro e w22 ⟨rfl, hb⟩
            have HB22 := Lib.hid (HB21.out.trans (hb.mono HB21.out.size))
            have HU22 := Lib.hid (HU21.out.below hb HU21.out.low)
            have HP22 := Lib.hid (HP21.out.below hb HP21.out.low)
            clear C2 hb HB21 HU21 HP21
            cases pv with
            | true =>
              obtain ⟨d, y, hD⟩ := delayA_ex us hj mj ps
              obtain ⟨L2, z2, x2, hB⟩ := bestA_ex us hj mj
              obtain ⟨rfl, rfl, rfl⟩ := prov_best HA.out rfl hD hB
              have HBA := Lib.hid hB
              have hdd : (d != d) = false := by simp
              have C3 := Lib.hid (delayI_any c4 c5 HU22.out (by omega) HP22.out (by omega) hc5 hj mj d true hD)
              clear HA hD hB
              go_wp2_with fail
              refine C3.out.mono ?_
              rintro e w23 ⟨rfl, hb⟩
              have HB23 := Lib.hid (HB22.out.trans (hb.mono HB22.out.size))
              have C4 := Lib.hid (bestI_any c4 (HU22.out.below hb HU22.out.low) (by omega) hj mj L2 d true HBA.out L2.length rfl)
              clear C3 hb HB22 HU22 HP22 HBA
              go_wp2_with fail
              refine C4.out.mono ?_
              rintro e w24 ⟨v9, rfl, -, hb, -⟩
              have HB24 := Lib.hid (HB23.out.trans (hb.mono HB23.out.size))
              clear C4 hb HB23
              go_wp2_with fail
              have D3 := Lib.hid (drawGap_any c (HC.out.on HB24.out))
              go_wp2_with fail
              refine D3.out.mono ?_
              rintro e w30 ⟨g6, q6, c6, xs, hk, mk, g7, q7, c7, rs, rfl, hq6, hcq6, hq7, hc7, hX, hR, hb⟩
              have HB30 := Lib.hid (HB24.out.trans (hb.mono HB24.out.size))
              have HX := Lib.hid hX
              have HR := Lib.hid hR
              obtain ⟨gz, gx, hG⟩ := gapA_ex xs hk mk rs
              have hge := gap_all hG
              have C5 := Lib.hid (gapI_any c6 c7 hX (by omega) hR (by omega) hc7 hk mk gz gx hG)
              have HG := Lib.hid hG
              have hg1 : (gz == gz) = true := by simp
              have hg2 : (gx == gx) = true := by simp
              clear D3 hX hR hb HB24 hG
              go_wp2_with fail
              refine C5.out.mono ?_
              rintro e w31 ⟨rfl, hb⟩
              have HB31 := Lib.hid (HB30.out.trans (hb.mono HB30.out.size))
              have C6 := Lib.hid (gapS_any c6 c7 (HX.out.below hb HX.out.low) (by omega) hcq6 (HR.out.below hb HR.out.low) (by omega) hc7 hk mk gz gx HG.out)
              clear C5 hb HB30 HX HR HG
              go_wp2_with fail
              refine C6.out.mono ?_
              rintro e w32 ⟨rfl, hb⟩
              have HB32 := Lib.hid (HB31.out.trans (hb.mono HB31.out.size))
              clear C6 hb HB31
              go_wp2_with fail
              go_ret
              exact ⟨rfl, HB32.out⟩
            | false =>
              clear HA HU22 HP22
              have D3 := Lib.hid (drawGap_any c (HC.out.on HB22.out))
              go_wp2_with fail
              refine D3.out.mono ?_
              rintro e w30 ⟨g6, q6, c6, xs, hk, mk, g7, q7, c7, rs, rfl, hq6, hcq6, hq7, hc7, hX, hR, hb⟩
              have HB30 := Lib.hid (HB22.out.trans (hb.mono HB22.out.size))
              have HX := Lib.hid hX
              have HR := Lib.hid hR
              obtain ⟨gz, gx, hG⟩ := gapA_ex xs hk mk rs
              have hge := gap_all hG
              have C5 := Lib.hid (gapI_any c6 c7 hX (by omega) hR (by omega) hc7 hk mk gz gx hG)
              have HG := Lib.hid hG
              have hg1 : (gz == gz) = true := by simp
              have hg2 : (gx == gx) = true := by simp
              clear D3 hX hR hb HB22 hG
              go_wp2_with fail
              refine C5.out.mono ?_
              rintro e w31 ⟨rfl, hb⟩
              have HB31 := Lib.hid (HB30.out.trans (hb.mono HB30.out.size))
              have C6 := Lib.hid (gapS_any c6 c7 (HX.out.below hb HX.out.low) (by omega) hcq6 (HR.out.below hb HR.out.low) (by omega) hc7 hk mk gz gx HG.out)
              clear C5 hb HB30 HX HR HG
              go_wp2_with fail
              refine C6.out.mono ?_
              rintro e w32 ⟨rfl, hb⟩
              have HB32 := Lib.hid (HB31.out.trans (hb.mono HB31.out.size))
              clear C6 hb HB31
              go_wp2_with fail
              go_ret
              exact ⟨rfl, HB32.out⟩
          · rw [decide_eq_false h0] at C8
            have h00 : (lst - z == 0) = false := by simpa using h0
            clear h0
            go_wp2_with fail
            refine C8.out.mono ?_
            rintro e w9 ⟨rfl, hb⟩
            have HB9 := Lib.hid (HB8.out.trans (hb.mono HB8.out.size))
            clear hb C8 HB8 HV8 HL8 HG
            go_wp2_with fail
            have D2 := Lib.hid (drawV_any c (HC.out.on HB9.out))
            go_wp2_with fail
            refine D2.out.mono ?_
            rintro e w20 ⟨g4, q4, c4, us, hj, mj, g5, q5, c5, ps, rfl, hq4, hcq4, hq5, hc5, hU, hP, hb⟩
            have HB20 := Lib.hid (HB9.out.trans (hb.mono HB9.out.size))
            have HU := Lib.hid hU
            have HP := Lib.hid hP
            obtain ⟨pv, fi, hA⟩ := provA_ex us hj mj ps
            have HA := Lib.hid hA
            have C1 := Lib.hid (provI_any c4 c5 hU (by omega) hP (by omega) hc5 hj mj pv fi hA)
            have hpp : (pv != pv) = false := by simp
            have hff : (fi != fi) = false := by simp
            clear D2 hU hP hb HB9 hA
            go_wp2_with fail
            refine C1.out.mono ?_
            rintro e w21 ⟨rfl, hb⟩
            have HB21 := Lib.hid (HB20.out.trans (hb.mono HB20.out.size))
            have HU21 := Lib.hid (HU.out.below hb HU.out.low)
            have HP21 := Lib.hid (HP.out.below hb HP.out.low)
            have C2 := Lib.hid (provS_any c4 c5 HU21.out (by omega) hcq4 HP21.out (by omega) hc5 hj mj pv fi HA.out)
            clear C1 hb HB20 HU HP
            go_wp2_with fail
            refine C2.out.mono ?_
            rintro e w22 ⟨rfl, hb⟩
            have HB22 := Lib.hid (HB21.out.trans (hb.mono HB21.out.size))
            have HU22 := Lib.hid (HU21.out.below hb HU21.out.low)
            have HP22 := Lib.hid (HP21.out.below hb HP21.out.low)
            clear C2 hb HB21 HU21 HP21
            cases pv with
            | true =>
              obtain ⟨d, y, hD⟩ := delayA_ex us hj mj ps
              obtain ⟨L2, z2, x2, hB⟩ := bestA_ex us hj mj
              obtain ⟨rfl, rfl, rfl⟩ := prov_best HA.out rfl hD hB
              have HBA := Lib.hid hB
              have hdd : (d != d) = false := by simp
              have C3 := Lib.hid (delayI_any c4 c5 HU22.out (by omega) HP22.out (by omega) hc5 hj mj d true hD)
              clear HA hD hB
              go_wp2_with fail
              refine C3.out.mono ?_
              rintro e w23 ⟨rfl, hb⟩
              have HB23 := Lib.hid (HB22.out.trans (hb.mono HB22.out.size))
              have C4 := Lib.hid (bestI_any c4 (HU22.out.below hb HU22.out.low) (by omega) hj mj L2 d true HBA.out L2.length rfl)
              clear C3 hb HB22 HU22 HP22 HBA
              go_wp2_with fail
              refine C4.out.mono ?_
              rintro e w24 ⟨v9, rfl, -, hb, -⟩
              have HB24 := Lib.hid (HB23.out.trans (hb.mono HB23.out.size))
              clear C4 hb HB23
              go_wp2_with fail
              have D3 := Lib.hid (drawGap_any c (HC.out.on HB24.out))
              go_wp2_with fail
              refine D3.out.mono ?_
              rintro e w30 ⟨g6, q6, c6, xs, hk, mk, g7, q7, c7, rs, rfl, hq6, hcq6, hq7, hc7, hX, hR, hb⟩
              have HB30 := Lib.hid (HB24.out.trans (hb.mono HB24.out.size))
              have HX := Lib.hid hX
              have HR := Lib.hid hR
              obtain ⟨gz, gx, hG⟩ := gapA_ex xs hk mk rs
              have hge := gap_all hG
              have C5 := Lib.hid (gapI_any c6 c7 hX (by omega) hR (by omega) hc7 hk mk gz gx hG)
              have HG := Lib.hid hG
              have hg1 : (gz == gz) = true := by simp
              have hg2 : (gx == gx) = true := by simp
              clear D3 hX hR hb HB24 hG
              go_wp2_with fail
              refine C5.out.mono ?_
              rintro e w31 ⟨rfl, hb⟩
              have HB31 := Lib.hid (HB30.out.trans (hb.mono HB30.out.size))
              have C6 := Lib.hid (gapS_any c6 c7 (HX.out.below hb HX.out.low) (by omega) hcq6 (HR.out.below hb HR.out.low) (by omega) hc7 hk mk gz gx HG.out)
              clear C5 hb HB30 HX HR HG
              go_wp2_with fail
              refine C6.out.mono ?_
              rintro e w32 ⟨rfl, hb⟩
              have HB32 := Lib.hid (HB31.out.trans (hb.mono HB31.out.size))
              clear C6 hb HB31
              go_wp2_with fail
              go_ret
              exact ⟨rfl, HB32.out⟩
            | false =>
              clear HA HU22 HP22
              have D3 := Lib.hid (drawGap_any c (HC.out.on HB22.out))
              go_wp2_with fail
              refine D3.out.mono ?_
              rintro e w30 ⟨g6, q6, c6, xs, hk, mk, g7, q7, c7, rs, rfl, hq6, hcq6, hq7, hc7, hX, hR, hb⟩
              have HB30 := Lib.hid (HB22.out.trans (hb.mono HB22.out.size))
              have HX := Lib.hid hX
              have HR := Lib.hid hR
              obtain ⟨gz, gx, hG⟩ := gapA_ex xs hk mk rs
              have hge := gap_all hG
              have C5 := Lib.hid (gapI_any c6 c7 hX (by omega) hR (by omega) hc7 hk mk gz gx hG)
              have HG := Lib.hid hG
              have hg1 : (gz == gz) = true := by simp
              have hg2 : (gx == gx) = true := by simp
              clear D3 hX hR hb HB22 hG
              go_wp2_with fail
              refine C5.out.mono ?_
              rintro e w31 ⟨rfl, hb⟩
              have HB31 := Lib.hid (HB30.out.trans (hb.mono HB30.out.size))
              have C6 := Lib.hid (gapS_any c6 c7 (HX.out.below hb HX.out.low) (by omega) hcq6 (HR.out.below hb HR.out.low) (by omega) hc7 hk mk gz gx HG.out)
              clear C5 hb HB30 HX HR HG
              go_wp2_with fail
              refine C6.out.mono ?_
              rintro e w32 ⟨rfl, hb⟩
              have HB32 := Lib.hid (HB31.out.trans (hb.mono HB31.out.size))
              clear C6 hb HB31
              go_wp2_with fail
              go_ret
              exact ⟨rfl, HB32.out⟩
        · have hne : (z != a) = true := by simpa using hza
          clear hza
          go_wp2_with fail
          have C7 := Lib.hid (gapI_any c1 c9 HV7.out (by omega) HL7.out (by omega) hc9 hi m (lst - z) true HG.out)
          go_wp2_with fail
          refine C7.out.mono ?_
          rintro e w8 ⟨rfl, hb⟩
          have HB8 := Lib.hid (HB7.out.trans (hb.mono HB7.out.size))
          have HV8 := Lib.hid (HV7.out.below hb HV7.out.low)
          have HL8 := Lib.hid (HL7.out.below hb HL7.out.low)
          clear hb C7 HB7 HV7 HL7
          have C8 := Lib.hid (provI_any c1 c9 HV8.out (by omega) HL8.out (by omega) hc9 hi m (true && decide (lst - z = 0)) true ⟨_, HG.out, rfl⟩)
          have hgg : (lst - z != lst - z) = false := by simp
          by_cases h0 : lst - z = 0
          · rw [decide_eq_true h0] at C8
            have h00 : (lst - z == 0) = true := by simpa using h0
            clear h0
            go_wp2_with fail
            refine C8.out.mono ?_
            rintro e w9 ⟨rfl, hb⟩
            have HB9 := Lib.hid (HB8.out.trans (hb.mono HB8.out.size))
            clear hb C8 HB8 HV8 HL8 HG
            go_wp2_with fail
            have D2 := Lib.hid (drawV_any c (HC.out.on HB9.out))
            go_wp2_with fail
            refine D2.out.mono ?_
            rintro e w20 ⟨g4, q4, c4, us, hj, mj, g5, q5, c5, ps, rfl, hq4, hcq4, hq5, hc5, hU, hP, hb⟩
            have HB20 := Lib.hid (HB9.out.trans (hb.mono HB9.out.size))
            have HU := Lib.hid hU
            have HP := Lib.hid hP
            obtain ⟨pv, fi, hA⟩ := provA_ex us hj mj ps
            have HA := Lib.hid hA
            have C1 := Lib.hid (provI_any c4 c5 hU (by omega) hP (by omega) hc5 hj mj pv fi hA)
            have hpp : (pv != pv) = false := by simp
            have hff : (fi != fi) = false := by simp
            clear D2 hU hP hb HB9 hA
            go_wp2_with fail
            refine C1.out.mono ?_
            rintro e w21 ⟨rfl, hb⟩
            have HB21 := Lib.hid (HB20.out.trans (hb.mono HB20.out.size))
            have HU21 := Lib.hid (HU.out.below hb HU.out.low)
            have HP21 := Lib.hid (HP.out.below hb HP.out.low)
            have C2 := Lib.hid (provS_any c4 c5 HU21.out (by omega) hcq4 HP21.out (by omega) hc5 hj mj pv fi HA.out)
            clear C1 hb HB20 HU HP
            go_wp2_with fail
            refine C2.out.mono ?_
            rintro e w22 ⟨rfl, hb⟩
            have HB22 := Lib.hid (HB21.out.trans (hb.mono HB21.out.size))
            have HU22 := Lib.hid (HU21.out.below hb HU21.out.low)
            have HP22 := Lib.hid (HP21.out.below hb HP21.out.low)
            clear C2 hb HB21 HU21 HP21
            cases pv with
            | true =>
              obtain ⟨d, y, hD⟩ := delayA_ex us hj mj ps
              obtain ⟨L2, z2, x2, hB⟩ := bestA_ex us hj mj
              obtain ⟨rfl, rfl, rfl⟩ := prov_best HA.out rfl hD hB
              have HBA := Lib.hid hB
              have hdd : (d != d) = false := by simp
              have C3 := Lib.hid (delayI_any c4 c5 HU22.out (by omega) HP22.out (by omega) hc5 hj mj d true hD)
              clear HA hD hB
              go_wp2_with fail
              refine C3.out.mono ?_
              rintro e w23 ⟨rfl, hb⟩
              have HB23 := Lib.hid (HB22.out.trans (hb.mono HB22.out.size))
              have C4 := Lib.hid (bestI_any c4 (HU22.out.below hb HU22.out.low) (by omega) hj mj L2 d true HBA.out L2.length rfl)
              clear C3 hb HB22 HU22 HP22 HBA
              go_wp2_with fail
              refine C4.out.mono ?_
              rintro e w24 ⟨v9, rfl, -, hb, -⟩
              have HB24 := Lib.hid (HB23.out.trans (hb.mono HB23.out.size))
              clear C4 hb HB23
              go_wp2_with fail
              have D3 := Lib.hid (drawGap_any c (HC.out.on HB24.out))
              go_wp2_with fail
              refine D3.out.mono ?_
              rintro e w30 ⟨g6, q6, c6, xs, hk, mk, g7, q7, c7, rs, rfl, hq6, hcq6, hq7, hc7, hX, hR, hb⟩
              have HB30 := Lib.hid (HB24.out.trans (hb.mono HB24.out.size))
              have HX := Lib.hid hX
              have HR := Lib.hid hR
              obtain ⟨gz, gx, hG⟩ := gapA_ex xs hk mk rs
              have hge := gap_all hG
              have C5 := Lib.hid (gapI_any c6 c7 hX (by omega) hR (by omega) hc7 hk mk gz gx hG)
              have HG := Lib.hid hG
              have hg1 : (gz == gz) = true := by simp
              have hg2 : (gx == gx) = true := by simp
              clear D3 hX hR hb HB24 hG
              go_wp2_with fail
              refine C5.out.mono ?_
              rintro e w31 ⟨rfl, hb⟩
              have HB31 := Lib.hid (HB30.out.trans (hb.mono HB30.out.size))
              have C6 := Lib.hid (gapS_any c6 c7 (HX.out.below hb HX.out.low) (by omega) hcq6 (HR.out.below hb HR.out.low) (by omega) hc7 hk mk gz gx HG.out)
              clear C5 hb HB30 HX HR HG
              go_wp2_with fail
              refine C6.out.mono ?_
              rintro e w32 ⟨rfl, hb⟩
              have HB32 := Lib.hid (HB31.out.trans (hb.mono HB31.out.size))
              clear C6 hb HB31
              go_wp2_with fail
              go_ret
              exact ⟨rfl, HB32.out⟩
            | false =>
              clear HA HU22 HP22
              have D3 := Lib.hid (drawGap_any c (HC.out.on HB22.out))
              go_wp2_with fail
              refine D3.out.mono ?_
              rintro e w30 ⟨g6, q6, c6, xs, hk, mk, g7, q7, c7, rs, rfl, hq6, hcq6, hq7, hc7, hX, hR, hb⟩
              have HB30 := Lib.hid (HB22.out.trans (hb.mono HB22.out.size))
              have HX := Lib.hid hX
              have HR := Lib.hid hR
              obtain ⟨gz, gx, hG⟩ := gapA_ex xs hk mk rs
              have hge := gap_all hG
              have C5 := Lib.hid (gapI_any c6 c7 hX (by omega) hR (by omega) hc7 hk mk gz gx hG)
              have HG := Lib.hid hG
              have hg1 : (gz == gz) = true := by simp
              have hg2 : (gx == gx) = true := by simp
              clear D3 hX hR hb HB22 hG
              go_wp2_with fail
              refine C5.out.mono ?_
              rintro e w31 ⟨rfl, hb⟩
              have HB31 := Lib.hid (HB30.out.trans (hb.mono HB30.out.size))
              have C6 := Lib.hid (gapS_any c6 c7 (HX.out.below hb HX.out.low) (by omega) hcq6 (HR.out.below hb HR.out.low) (by omega) hc7 hk mk gz gx HG.out)
              clear C5 hb HB30 HX HR HG
              go_wp2_with fail
              refine C6.out.mono ?_
              rintro e w32 ⟨rfl, hb⟩
              have HB32 := Lib.hid (HB31.out.trans (hb.mono HB31.out.size))
              clear C6 hb HB31
              go_wp2_with fail
              go_ret
              exact ⟨rfl, HB32.out⟩
          · rw [decide_eq_false h0] at C8
            have h00 : (lst - z == 0) = false := by simpa using h0
            clear h0
            go_wp2_with fail
            refine C8.out.mono ?_
            rintro e w9 ⟨rfl, hb⟩
            have HB9 := Lib.hid (HB8.out.trans (hb.mono HB8.out.size))
            clear hb C8 HB8 HV8 HL8 HG
            go_wp2_with fail
            have D2 := Lib.hid (drawV_any c (HC.out.on HB9.out))
            go_wp2_with fail
            refine D2.out.mono ?_
            rintro e w20 ⟨g4, q4, c4, us, hj, mj, g5, q5, c5, ps, rfl, hq4, hcq4, hq5, hc5, hU, hP, hb⟩
            have HB20 := Lib.hid (HB9.out.trans (hb.mono HB9.out.size))
            have HU := Lib.hid hU
            have HP := Lib.hid hP
            obtain ⟨pv, fi, hA⟩ := provA_ex us hj mj ps
            have HA := Lib.hid hA
            have C1 := Lib.hid (provI_any c4 c5 hU (by omega) hP (by omega) hc5 hj mj pv fi hA)
            have hpp : (pv != pv) = false := by simp
            have hff : (fi != fi) = false := by simp
            clear D2 hU hP hb HB9 hA
            go_wp2_with fail
            refine C1.out.mono ?_
            rintro e w21 ⟨rfl, hb⟩
            have HB21 := Lib.hid (HB20.out.trans (hb.mono HB20.out.size))
            have HU21 := Lib.hid (HU.out.below hb HU.out.low)
            have HP21 := Lib.hid (HP.out.below hb HP.out.low)
            have C2 := Lib.hid (provS_any c4 c5 HU21.out (by omega) hcq4 HP21.out (by omega) hc5 hj mj pv fi HA.out)
            clear C1 hb HB20 HU HP
            go_wp2_with fail
            refine C2.out.mono ?_
            rintro e w22 ⟨rfl, hb⟩
            have HB22 := Lib.hid (HB21.out.trans (hb.mono HB21.out.size))
            have HU22 := Lib.hid (HU21.out.below hb HU21.out.low)
            have HP22 := Lib.hid (HP21.out.below hb HP21.out.low)
            clear C2 hb HB21 HU21 HP21
            cases pv with
            | true =>
              obtain ⟨d, y, hD⟩ := delayA_ex us hj mj ps
              obtain ⟨L2, z2, x2, hB⟩ := bestA_ex us hj mj
              obtain ⟨rfl, rfl, rfl⟩ := prov_best HA.out rfl hD hB
              have HBA := Lib.hid hB
              have hdd : (d != d) = false := by simp
              have C3 := Lib.hid (delayI_any c4 c5 HU22.out (by omega) HP22.out (by omega) hc5 hj mj d true hD)
              clear HA hD hB
              go_wp2_with fail
              refine C3.out.mono ?_
              rintro e w23 ⟨rfl, hb⟩
              have HB23 := Lib.hid (HB22.out.trans (hb.mono HB22.out.size))
              have C4 := Lib.hid (bestI_any c4 (HU22.out.below hb HU22.out.low) (by omega) hj mj L2 d true HBA.out L2.length rfl)
              clear C3 hb HB22 HU22 HP22 HBA
              go_wp2_with fail
              refine C4.out.mono ?_
              rintro e w24 ⟨v9, rfl, -, hb, -⟩
              have HB24 := Lib.hid (HB23.out.trans (hb.mono HB23.out.size))
              clear C4 hb HB23
              go_wp2_with fail
              have D3 := Lib.hid (drawGap_any c (HC.out.on HB24.out))
              go_wp2_with fail
              refine D3.out.mono ?_
              rintro e w30 ⟨g6, q6, c6, xs, hk, mk, g7, q7, c7, rs, rfl, hq6, hcq6, hq7, hc7, hX, hR, hb⟩
              have HB30 := Lib.hid (HB24.out.trans (hb.mono HB24.out.size))
              have HX := Lib.hid hX
              have HR := Lib.hid hR
              obtain ⟨gz, gx, hG⟩ := gapA_ex xs hk mk rs
              have hge := gap_all hG
              have C5 := Lib.hid (gapI_any c6 c7 hX (by omega) hR (by omega) hc7 hk mk gz gx hG)
              have HG := Lib.hid hG
              have hg1 : (gz == gz) = true := by simp
              have hg2 : (gx == gx) = true := by simp
              clear D3 hX hR hb HB24 hG
              go_wp2_with fail
              refine C5.out.mono ?_
              rintro e w31 ⟨rfl, hb⟩
              have HB31 := Lib.hid (HB30.out.trans (hb.mono HB30.out.size))
              have C6 := Lib.hid (gapS_any c6 c7 (HX.out.below hb HX.out.low) (by omega) hcq6 (HR.out.below hb HR.out.low) (by omega) hc7 hk mk gz gx HG.out)
              clear C5 hb HB30 HX HR HG
              go_wp2_with fail
              refine C6.out.mono ?_
              rintro e w32 ⟨rfl, hb⟩
              have HB32 := Lib.hid (HB31.out.trans (hb.mono HB31.out.size))
              clear C6 hb HB31
              go_wp2_with fail
              go_ret
              exact ⟨rfl, HB32.out⟩
            | false =>
              clear HA HU22 HP22
              have D3 := Lib.hid (drawGap_any c (HC.out.on HB22.out))
              go_wp2_with fail
              refine D3.out.mono ?_
              rintro e w30 ⟨g6, q6, c6, xs, hk, mk, g7, q7, c7, rs, rfl, hq6, hcq6, hq7, hc7, hX, hR, hb⟩
              have HB30 := Lib.hid (HB22.out.trans (hb.mono HB22.out.size))
              have HX := Lib.hid hX
              have HR := Lib.hid hR
              obtain ⟨gz, gx, hG⟩ := gapA_ex xs hk mk rs
              have hge := gap_all hG
              have C5 := Lib.hid (gapI_any c6 c7 hX (by omega) hR (by omega) hc7 hk mk gz gx hG)
              have HG := Lib.hid hG
              have hg1 : (gz == gz) = true := by simp
              have hg2 : (gx == gx) = true := by simp
              clear D3 hX hR hb HB22 hG
              go_wp2_with fail
              refine C5.out.mono ?_
              rintro e w31 ⟨rfl, hb⟩
              have HB31 := Lib.hid (HB30.out.trans (hb.mono HB30.out.size))
              have C6 := Lib.hid (gapS_any c6 c7 (HX.out.below hb HX.out.low) (by omega) hcq6 (HR.out.below hb HR.out.low) (by omega) hc7 hk mk gz gx HG.out)
              clear C5 hb HB30 HX HR HG
              go_wp2_with fail
              refine C6.out.mono ?_
              rintro e w32 ⟨rfl, hb⟩
              have HB32 := Lib.hid (HB31.out.trans (hb.mono HB31.out.size))
              clear C6 hb HB31
              go_wp2_with fail
              go_ret
              exact ⟨rfl, HB32.out⟩
theorem own : ownKnob Try.prog.godebug = none := by kernel_rfl
theorem laidOut : laidOutB Try.prog = true := by kernel_rfl

set_option maxRecDepth 100000 in
theorem lifted (os : Os) (started : os.Started) (H : Type) (enc : TypeId × Value → H) :
    ReturnsInHanded {} Try.checked os 3 .any (Rows.fnBoundsSpec.pre6 enc Try.prog Try.f3 Rows.fnBoundsRow.domain false) (Rows.fnBoundsSpec.post enc Try.prog Try.f3 false true false false) := by
  refine returnsInHanded_of_change (C := Try.checked) own started (by kernel_rfl) Try.func3
    (ChangeSpec.witness6 (enc := enc) (C := Try.checked) false ⟨#[], #[.slice none 0 0], []⟩ 8 (by kernel_rfl) (by kernel_rfl) (by kernel_rfl) (by kernel_rfl)) ?_
  intro W base args ds gs before hval0 hW hcnd _
  have hval : ∀ (j : Nat) t v, Try.f3.params[j]? = some t → args[j]? = some v → Value.okWide Try.prog W .any base t v := hval0
  have hW' := hW
  obtain ⟨p, q, hA0, hV, rfl, hfz, hnd⟩ := hW
  have hA : DataW.TrodAll enc Try.prog W 0 (fun _ => true) true Try.f3.params.toList args.toList ds p := hA0
  rw [Try.params3] at hA hval
  obtain ⟨v0, vs0, d0, ds0, p0, q0, hargs, rfl, rfl, h0, r0⟩ := trodAll_cons hA
  obtain ⟨rfl, rfl, rfl⟩ := trodAll_nil r0
  obtain rfl : args = #[v0] := by cases args; simp_all
  obtain ⟨rfl, rfl⟩ := trodVars_none hV
  obtain ⟨a0, len0, cap0, rfl⟩ := okWide_slice Try.underlying22 (hval 0 22 v0 rfl rfl)
  have k0 := h0
  have lt0 : ∀ x ∈ p0, x.block < W.heap.size := by obtain ⟨m, hm⟩ := k0; exact DataW.trod_lt m _ _ _ hm
  obtain ⟨z0, w0⟩ : ∃ zs, IsInts .u8 W a0 len0 zs := by
    obtain ⟨fuel, hf⟩ := h0
    rcases open_ints Try.underlying22 Try.underlying5 (by kernel_rfl) hf with ⟨hcs, _⟩ | ⟨x, l, c, zs, hcs, _, hl, hm, hz, _, hcell, hwz⟩
    · simp [Value.cells] at hcs
      obtain ⟨rfl, rfl, rfl⟩ := hcs
      exact ⟨[], isInts_nil _ W⟩
    · simp [Value.cells] at hcs
      obtain ⟨rfl, rfl, rfl⟩ := hcs
      exact ⟨_, isInts_some hl hm (by simpa using hz) hcell hwz⟩
  clear hA0 hval0
  refine (walk a0 len0 cap0 z0 W w0).mono fun e W' ⟨he, bel⟩ => ?_
  subst he
  exact ⟨_, rfl, _, _, _, [], _, [], hW', trodAll_mk1 (shut_bool Try.underlying4 _), (trodAll_cons_mk (Below.trod laidOut (by kernel_rfl) (of_decide_eq_true (by kernel_rfl)) k0 bel lt0) trodAll_mk0), rfl, bel.frame _, fun h => by cases h⟩

theorem over : Rows.fnBoundsRow.holds Try.pinned (OpenSpec.ofChange Rows.fnBoundsSpec) :=
  OpenClaim.holds_of_wide 3 Try.f3 rfl rfl rfl rfl rfl rfl rfl ⟨rfl, rfl, rfl, rfl, rfl⟩ rfl rfl rfl rfl rfl (by kernel_rfl) Try.func3 (by kernel_rfl)
    (of_decide_eq_true (by kernel_rfl)) (by unfold Func.isWrapper; first | (rw [if_pos (by decide +kernel)]; kernel_rfl) | (rw [if_neg (by decide +kernel)]; exact ⟨rfl, rfl⟩))
    (fun os started H enc _ => lifted os started H enc)

/-- The statement. -/
theorem proved : Rows.FnBoundsSaid := over
end Go.Proofs.Ytkdolpgnaabdaaa.fnBounds
