/- FnLockages holds: no order has a smaller delay than the best one, and each lockage begins after the one before it has ended; at every list of bytes. -/
import Derived.Test.YtdleidlmjliapaaLhD
import Derived.Test.YtdleidlmjliapaaLhM
import Derived.Test.YtdleidlmjliapaaLkH
import Derived.Test.YtdleidlmjliapaaLkK
import Derived.Test.YtdleidlmjliapaaLkL
import Derived.Test.YtdleidlmjliapaaLkP
import Derived.Test.YtdleidlmjliapaaLkU
import Derived.Test.YtdleidlmjliapaaVInt
import Derived.Test.YtdleidlmjliapaaBig
import Derived.Test.YtdleidlmjliapaaSt0
import Derived.OpenShut
import Derived.ShutString
import Derived.ChangeOld
import Derived.WalkLawsBesides
import Derived.Lib.SmallJoins
import Derived.Deep.RegionHeld3
namespace Go.Proofs.Ytdleidlmjliapaa.fnLockages
open Go.ChangeShapes Go.WideShapes Go.ChangeAt Go.RowKit
open Go.ChangeMaps (open_string shut_string)
set_option linter.unusedVariables false
set_option linter.unusedSimpArgs false

theorem ownB_is {w : World} {base n c : Nat} {A : Option Addr} {L : List Int} (h : w.ownsRow base 3 1 (.slice A n c) n (L.map (.int .i64))) : IsIs w w.heap.size A n L ∧ n ≤ c := by
  refine ⟨⟨by have := h.1; simpa using this, Nat.le_refl _, Has.of_own h⟩, ?_⟩
  rcases h.2 with ⟨h1, h2⟩ | ⟨g, cap, cur, h1, -, -, h2, -⟩
  · cases h1; omega
  · injection h1 with _ _ h3; omega
theorem cellI {w : World} {B g n : Nat} {L : List Int} (h : IsIs w B (some ⟨g, 0, none⟩) n L) {k : Nat} (hk : k < n) : w.cell? ⟨g, k, none⟩ = some (.int .i64 (L.getD k 0)) := by
  obtain ⟨a, ea, hb, hc⟩ := Has.numAt h.has (k := k) (by rw [h.len]; exact hk)
  injection ea with ea
  subst ea
  simpa [addO] using hc
set_option maxRecDepth 100000 in
set_option maxHeartbeats 16000000 in
theorem walk (A : Option Addr) (n c : Nat) (zs : List Int) (w : World) (hI : IsInts .u8 w A n zs) :
    Calls Try.prog 4 #[.slice A n c] w fun e w' => e = .returned (.bool true) ∧ Below w.heap.size w w' := by
  by_cases hbig : 65536 < n
  · have CB := Lib.hid (bigL_yes A n c w hbig hI.2.1)
    clear hI
    go_enter Try.func4, Try.ntmps4
    go_wp2_with fail
    refine CB.out.mono ?_
    rintro e w1 ⟨rfl, rfl⟩
    go_wp2_with fail
    go_ret
    exact ⟨rfl, Below.refl _ _⟩
  · have CB := Lib.hid (bigL_no A n c w (by omega))
    have HC := Lib.hid (Code_.of hI (by omega))
    have D1 := Lib.hid (drawDel_any c HC.out)
    clear hI hbig
    go_enter Try.func4, Try.ntmps4
    go_wp2_with fail
    refine CB.out.mono ?_
    rintro e w1 ⟨rfl, rfl⟩
    clear CB
    go_wp2_with fail
    refine D1.out.mono ?_
    rintro e w1 ⟨g1, q, c1, vs, hi, m, g2, q2, c2, os, rfl, hq, hq2, hqc2, hV, hO, hb⟩
    have HB1 := Lib.hid hb
    have HV1 := Lib.hid hV
    have HO1 := Lib.hid hO
    obtain ⟨D, x, hA1⟩ := delayA_ex vs hi m os
    obtain ⟨Bs, z, x2, hA2⟩ := bestA_ex vs hi m
    obtain ⟨T, x3, hA3⟩ := timesA_ex vs hi m os
    obtain rfl := fine_is hA1 hA3
    obtain ⟨lb, hlb⟩ : ∃ l, Bs.length = l := ⟨_, rfl⟩
    obtain ⟨lt, hlt⟩ : ∃ l, T.length = l := ⟨_, rfl⟩
    have hlb6 : lb ≤ 6 := by rw [← hlb]; exact hA2.len
    have hlt6 : lt ≤ 6 := by rw [← hlt]; exact hA3.len
    have HLB := Lib.hid hlb
    have HLT := Lib.hid hlt
    have HA1 := Lib.hid hA1
    have HA2 := Lib.hid hA2
    have HA3 := Lib.hid hA3
    have hDD : (D != D) = false := by simp
    have hzz : (z != z) = false := by simp
    have h33 : (x3 != x3) = false := by simp
    have h22 : (x2 != x2) = false := by simp
    have C1 := Lib.hid (delayI_any c1 c2 HV1.out (by omega) HO1.out (by omega) hqc2 hi m D x3 hA1)
    clear hb D1 hV hO hA1 hA2 hA3 hlb hlt
    go_wp2_with fail
    refine C1.out.mono ?_
    rintro e w2 ⟨rfl, hb⟩
    have HB2 := Lib.hid (HB1.out.trans (hb.mono HB1.out.size))
    have HV2 := Lib.hid (HV1.out.below hb HV1.out.low)
    have HO2 := Lib.hid (HO1.out.below hb HO1.out.low)
    clear hb C1 HB1 HV1 HO1
    have C2 := Lib.hid (delayS_any c1 c2 HV2.out (by omega) HO2.out (by omega) hqc2 hi m D x3 HA1.out)
    go_wp2_with fail
    refine C2.out.mono ?_
    rintro e w3 ⟨rfl, hb⟩
    have HB3 := Lib.hid (HB2.out.trans (hb.mono HB2.out.size))
    have HV3 := Lib.hid (HV2.out.below hb HV2.out.low)
    have HO3 := Lib.hid (HO2.out.below hb HO2.out.low)
    clear hb C2 HB2 HV2 HO2
    have C3 := Lib.hid (bestI_any c1 HV3.out (by omega) hi m Bs z x2 HA2.out lb HLB.out)
    go_wp2_with fail
    refine C3.out.mono ?_
    rintro e w4 ⟨v, rfl, ho, hb, -⟩
    obtain ⟨A9, c9, rfl⟩ := own_form2 ho
    obtain ⟨hL, hc9⟩ := ownB_is ho
    have HL4 := Lib.hid hL
    have HB4 := Lib.hid (HB3.out.trans (hb.mono HB3.out.size))
    have HV4 := Lib.hid (HV3.out.below hb HV3.out.low)
    have HO4 := Lib.hid (HO3.out.below hb HO3.out.low)
    clear hb C3 HB3 HV3 HO3 ho hL
    have C4 := Lib.hid (bestS_any c1 HV4.out (by omega) hi m Bs z x2 HA2.out lb HLB.out)
    go_wp2_with fail
    refine C4.out.mono ?_
    rintro e w5 ⟨g8, c8, rfl, ho, hb⟩
    have HL5 := Lib.hid (HL4.out.below hb HL4.out.low)
    have HB5 := Lib.hid (HB4.out.trans (hb.mono HB4.out.size))
    have HV5 := Lib.hid (HV4.out.below hb HV4.out.low)
    have HO5 := Lib.hid (HO4.out.below hb HO4.out.low)
    have C5 := Lib.hid (vInt_same A9 (some ⟨g8, 0, none⟩) lb c9 c8 _ _ Bs w5 HLB.out (by unfold maxLen; omega) HL5.out.has (own_IsIs ho).has)
    clear hb C4 HB4 HV4 HO4 HL4 ho
    go_wp2_with fail
    refine C5.out.mono ?_
    rintro e w6 ⟨rfl, hD⟩
    have HL6 := Lib.hid (HL5.out.below (hD.below _) HL5.out.low)
    have HB6 := Lib.hid (HB5.out.trans (hD.below _))
    have HV6 := Lib.hid (HV5.out.below (hD.below _) HV5.out.low)
    have HO6 := Lib.hid (HO5.out.below (hD.below _) HO5.out.low)
    have C6 := Lib.hid (timesI_any c1 c2 HV6.out (by omega) HO6.out (by omega) hqc2 hi m T x3 HA3.out lt HLT.out)
    clear hD C5 HL5 HB5 HV5 HO5
    go_wp2_with fail
    refine C6.out.mono ?_
    rintro e w7 ⟨g6, c6, rfl, ho, hb⟩
    have HT7 := Lib.hid (own_IsIs ho)
    have HL7 := Lib.hid (HL6.out.below hb HL6.out.low)
    have HB7 := Lib.hid (HB6.out.trans (hb.mono HB6.out.size))
    have HV7 := Lib.hid (HV6.out.below hb HV6.out.low)
    have HO7 := Lib.hid (HO6.out.below hb HO6.out.low)
    have C7 := Lib.hid (timesS_any c1 c2 HV7.out (by omega) HO7.out (by omega) hqc2 hi m T x3 HA3.out lt HLT.out)
    clear hb ho C6 HL6 HB6 HV6 HO6
    go_wp2_with fail
    refine C7.out.mono ?_
    rintro e w8 ⟨g7, c7, rfl, ho, hb⟩
    have HT8 := Lib.hid (HT7.out.below hb HT7.out.low)
    have HL8 := Lib.hid (HL7.out.below hb HL7.out.low)
    have HB8 := Lib.hid (HB7.out.trans (hb.mono HB7.out.size))
    have HV8 := Lib.hid (HV7.out.below hb HV7.out.low)
    have HO8 := Lib.hid (HO7.out.below hb HO7.out.low)
    have C8 := Lib.hid (vInt_same (some ⟨g6, 0, none⟩) (some ⟨g7, 0, none⟩) lt c6 c7 _ _ T w8 HLT.out (by unfold maxLen; omega) HT8.out.has (own_IsIs ho).has)
    clear hb ho C7 HT7 HL7 HB7 HV7 HO7
    go_wp2_with fail
    refine C8.out.mono ?_
    rintro e w8a ⟨rfl, hD⟩
    have HT := Lib.hid (HT8.out.below (hD.below _) HT8.out.low)
    have HL := Lib.hid (HL8.out.below (hD.below _) HL8.out.low)
    have HB := Lib.hid (HB8.out.trans (hD.below _))
    have HV := Lib.hid (HV8.out.below (hD.below _) HV8.out.low)
    have HO := Lib.hid (HO8.out.below (hD.below _) HO8.out.low)
    clear hD C8 HT8 HL8 HB8 HV8 HO8
    cases x3 with
    | false =>
      clear HT HL HV HO HA1 HA2 HA3
      have D2 := Lib.hid (drawFC_any c (HC.out.on HB.out))
      go_wp2_with fail
      refine D2.out.mono ?_
      rintro e w40 ⟨g4, q4, c4, us, rfl, hq4, hU, hb⟩
      have HB40 := Lib.hid (HB.out.trans (hb.mono HB.out.size))
      have HU := Lib.hid hU
      obtain ⟨K, y, hK⟩ := comeA_ex us
      obtain ⟨l4, hl4⟩ : ∃ l, K.length = l := ⟨_, rfl⟩
      have HKL := Lib.hid hl4
      have hl46 : l4 ≤ 6 := by rw [← hl4]; exact hK.len
      have HK := Lib.hid hK
      have HCO := Lib.hid (come_ord hK)
      have hyy : (y == y) = true := by simp
      clear D2 hU hb hK hl4 HB
      go_wp2_with fail
      refine (comeI_any c4 HU.out (by omega) K y HK.out l4 HKL.out).mono ?_
      rintro e w41 ⟨g5, c5, rfl, ho, hb⟩
      have HB41 := Lib.hid (HB40.out.trans (hb.mono HB40.out.size))
      have HU1 := Lib.hid (HU.out.below hb HU.out.low)
      obtain ⟨hL, hc5⟩ := ownB_is ho
      have HP1 := Lib.hid hL
      clear hb ho hL HB40 HU
      go_wp2_with fail
      refine (comeS_any c4 HU1.out (by omega) K y HK.out l4 HKL.out).mono ?_
      rintro e w42 ⟨g6, c6, rfl, ho, hb⟩
      have HB42 := Lib.hid (HB41.out.trans (hb.mono HB41.out.size))
      have HU2 := Lib.hid (HU1.out.below hb HU1.out.low)
      have HP2 := Lib.hid (HP1.out.below hb HP1.out.low)
      have C3 := Lib.hid (vInt_same (some ⟨g5, 0, none⟩) (some ⟨g6, 0, none⟩) l4 c5 c6 _ _ K w42 HKL.out (by unfold maxLen; omega) HP2.out.has (own_IsIs ho).has)
      clear hb ho HB41 HU1 HP1 HK
      go_wp2_with fail
      refine C3.out.mono ?_
      rintro e w43 ⟨rfl, hD⟩
      have HB43 := Lib.hid (HB42.out.trans (hD.below _))
      have HU3 := Lib.hid (HU2.out.below (hD.below _) HU2.out.low)
      have HP3 := Lib.hid (HP2.out.below (hD.below _) HP2.out.low)
      have C4 := Lib.hid (areArrivals_any c4 HU3.out (by unfold maxLen; omega))
      rw [HCO.out.1] at C4
      clear hD C3 HB42 HU2 HP2
      go_wp2_with fail
      refine C4.out.mono ?_
      rintro e w44 ⟨rfl, hb⟩
      have HB44 := Lib.hid (HB43.out.trans (hb.mono HB43.out.size))
      cases y with
      | false =>
        clear hb C4 HB43 HU3 HP3 HCO
        go_wp2_with fail
        go_ret
        exact ⟨rfl, HB44.out⟩
      | true =>
        have HU4 := Lib.hid (HU3.out.below hb HU3.out.low)
        have HP4 := Lib.hid (HP3.out.below hb HP3.out.low)
        have C5 := Lib.hid (isOrderI_any c4 c5 HU4.out (by omega) HP4.out (by omega) hc5)
        rw [HCO.out.2 rfl] at C5
        clear hb C4 HB43 HU3 HP3 HCO
        go_wp2_with fail
        refine C5.out.mono ?_
        rintro e w45 ⟨rfl, hb⟩
        have HB45 := Lib.hid (HB44.out.trans (hb.mono HB44.out.size))
        clear hb C5 HB44 HU4 HP4
        go_wp2_with fail
        go_ret
        exact ⟨rfl, HB45.out⟩
    | true =>
      have HF := Lib.hid (lok_all HA1.out HA2.out HA3.out)
      obtain rfl := HF.out.told
      have hnl : ¬ D < z := by have := HF.out.low; omega
      have hm1 := HF.out.hm.1
      have hm2 := HF.out.hm.2
      have hqq : q2 = q := by rw [← HO.out.len, HF.out.ol, HV.out.len]
      subst hqq
      have hll : lt = q2 := by rw [← HLT.out, HF.out.tl, HO.out.len]
      subst hll
      have C9 := Lib.hid (delayI_any c1 c9 HV.out (by omega) HL.out (by omega) hc9 hi m z true HF.out.best)
      clear HA1 HA2 HA3
      go_wp2_with fail
      refine C9.out.mono ?_
      rintro e w8b ⟨rfl, hb⟩
      have HT2 := Lib.hid (HT.out.below hb HT.out.low)
      have HL2 := Lib.hid (HL.out.below hb HL.out.low)
      have HB2 := Lib.hid (HB.out.trans (hb.mono HB.out.size))
      have HV2 := Lib.hid (HV.out.below hb HV.out.low)
      have HO2 := Lib.hid (HO.out.below hb HO.out.low)
      have C10 := Lib.hid (isOrderI_any c1 c9 HV2.out (by omega) HL2.out (by omega) hc9)
      rw [HF.out.ord] at C10
      clear hb C9 HT HL HB HV HO
      go_wp2_with fail
      refine C10.out.mono ?_
      rintro e w9 ⟨rfl, hb⟩
      have HT9 := Lib.hid (HT2.out.below hb HT2.out.low)
      have HB9 := Lib.hid (HB2.out.trans (hb.mono HB2.out.size))
      have HV9 := Lib.hid (HV2.out.below hb HV2.out.low)
      have HO9 := Lib.hid (HO2.out.below hb HO2.out.low)
      obtain ⟨S, hS0, hSD, hSb, hSK⟩ := lok_loop HF.out
      rw [HO9.out.len] at hSD hSb hSK
      have HSD := Lib.hid hSD
      have HSB := Lib.hid hSb
      have HSK := Lib.hid hSK
      clear hb C10 HT2 HL2 HB2 HV2 HO2 HF hSD hSb hSK
      go_wp2_with fail
      clear hnl hzz h33 h22
      go_loopw [23, 24] (fun s v wr => ∃ k : Nat, k ≤ lt ∧ v = .int .i64 k ∧ s = .int .i64 (S k) ∧ Below w.heap.size w wr ∧ Below w9.heap.size w9 wr) (fun _ v _ => lt - (intOf v).toNat)
      case atStart => exact ⟨0, Nat.zero_le _, rfl, by rw [hS0], HB9.out, Below.refl _ _⟩
      case round =>
        clear HB9 hS0
        obtain ⟨k, hk, rfl, rfl, hbw, hbq⟩ := hrel
        have HBW := Lib.hid hbw
        have HBQ := Lib.hid hbq
        have hsb := HSB.out k hk
        clear hbw hbq
        by_cases hlt : k < lt
        · obtain ⟨⟨o, ho, hol⟩, hbt, hbm, hbwt, hown, hw, hsum, hnx⟩ := HSK.out k hlt
          have HSUM := Lib.hid hsum
          have hsb2 := HSB.out (k + 1) (by omega)
          rw [hsum] at hsb2
          have ht0 := cellI (HO9.out.below HBQ.out HO9.out.low) hlt
          have ht1 := cellI (HT9.out.below HBQ.out HT9.out.low) hlt
          rw [ho] at ht0 hbm hbwt hown hw hsb2 HSUM hnx
          rw [atA_cast] at hbm hbwt hown hw hsb2 HSUM hnx
          obtain ⟨V, hVe⟩ : ∃ V, vs.getD o noArrival = V := ⟨_, rfl⟩
          rw [hVe] at hbm hbwt hown hw hsb2 HSUM hnx
          rw [HV9.out.len] at hol
          obtain ⟨aU, eU, -, hUc⟩ := (HV9.out.below HBQ.out HV9.out.low).has.Arrival (k := o) (by rw [HV9.out.len]; omega)
          injection eU with eU
          subst eU
          rw [hVe] at hUc
          have u0 := hUc.c0
          have u1 := hUc.c1
          have u2 := hUc.c2
          have u3 := hUc.c3
          clear hUc
          simp only [addO, Nat.zero_add] at u0 u1 u2 u3
          obtain ⟨i0, b0, mi, wt⟩ := V
          dsimp only at hbm hbwt hown hw hsb2 HSUM hnx u0 u1 u2 u3
          obtain ⟨t, ht⟩ : ∃ t, T.getD k 0 = t := ⟨_, rfl⟩
          rw [ht] at hbt hown hw hsb2 HSUM hnx ht1
          have HTE := Lib.hid ht
          obtain ⟨s, hs⟩ : ∃ s, S k = s := ⟨_, rfl⟩
          rw [hs] at hsb hsb2 HSUM ⊢
          have ho0 : (0 : Int) ≤ (o : Int) := by omega
          have ho1 : (o : Int) < (lt : Int) := by omega
          have hk0 : (0 : Int) ≤ (k : Int) := by omega
          have hk1 : (k : Int) < (lt : Int) := by omega
          obtain ⟨wa, hwa⟩ : ∃ W, wr.alloc (.cells #[.int .i64 i0, .bool b0, .int .i64 mi, .int .i64 wt] 58) = W := ⟨_, rfl⟩
          have BB := Lib.hid (BoxA.new wr ⟨i0, b0, mi, wt⟩)
          have HBA := Lib.hid (below1 wr (.cells #[.int .i64 i0, .bool b0, .int .i64 mi, .int .i64 wt] 58))
          obtain ⟨xb, hxb⟩ : ∃ x, wr.heap.size = x := ⟨_, rfl⟩
          have HNX := Lib.hid hnx
          clear ht hs hsum hVe ho hnx
          go_wp2_with fail
          rw [hwa] at BB HBA
          (try rw [hwa])
          rw [hxb] at BB
          try simp only [hxb]
          clear hwa hxb ht0 ht1 u0 u1 u2 u3
          have HBA2 := Lib.hid (HBW.out.trans (HBA.out.mono HBW.out.size))
          have HQa := Lib.hid (HBQ.out.trans (HBA.out.mono HBQ.out.size))
          have BBa := BB
          have HTa := Lib.hid (HT9.out.below HQa.out HT9.out.low)
          have e1 := BBa.out.c1
          have e2 := BBa.out.c2
          have t1 := cellI HTa.out hlt
          rw [HTE.out] at t1
          dsimp only at e1 e2
          have E1 := fun (d : Nat) (os : Array Obj) => cell_regrown e1 d os
          have E2 := fun (d : Nat) (os : Array Obj) => cell_regrown e2 d os
          have T0 := fun (d : Nat) (os : Array Obj) => cell_regrown t1 d os
          clear e1 e2 t1 BB
          have hnt : ¬ t < mi := by omega
          rcases Nat.eq_zero_or_pos k with hz0 | hz0
          · have hkz : ¬ 0 < (k : Int) := by omega
            have hkd : decide (0 < k) = false := decide_eq_false (show ¬ 0 < k by omega)
            clear HNX hz0 hkz
            refine wp_region_quiet_below (by kernel_rfl) (by kernel_rfl) ?_
            repeat (first | go_big_quiet_step (first | fail) | rw [hkd])
            refine wpQuiet_nil ?_
            intro _ hw'
            obtain ⟨⟨dq, osq⟩, hw''⟩ := hw'
            subst hw''
            have HBY := Lib.hid (HBA2.out.trans ((below_regrown wa dq osq).mono HBA2.out.size))
            have HZ := Lib.hid (below_regrown wa dq osq)
            clear E1 E2 T0 hkd HBA2
            dsimp only
            generalize Go.Sort.grow (redrawn wa dq) osq = wb at HBY HZ ⊢
            have HTb := Lib.hid (HTa.out.below HZ.out HTa.out.low)
            have HQb := Lib.hid (HQa.out.trans (HZ.out.mono HQa.out.size))
            have BBb := Lib.hid (BBa.out.all HZ.out)
            have e2 := BBb.out.c2
            have e3 := BBb.out.c3
            have t1 := cellI HTb.out hlt
            rw [HTE.out] at t1
            dsimp only at e2 e3
            have E2 := fun (d : Nat) (os : Array Obj) => cell_regrown e2 d os
            have E3 := fun (d : Nat) (os : Array Obj) => cell_regrown e3 d os
            have T0 := fun (d : Nat) (os : Array Obj) => cell_regrown t1 d os
            clear e2 e3 t1 HTa HQa BBa HZ BBb HTb HTE
            go_wp2_with fail
            refine wp_region_quiet_below (by kernel_rfl) (by kernel_rfl) ?_
            repeat (go_big_quiet_step (first | fail))
            refine wpQuiet_nil ?_
            intro _ hw'
            obtain ⟨⟨dq, osq⟩, hw''⟩ := hw'
            subst hw''
            have HBX := Lib.hid (HBY.out.trans ((below_regrown wb dq osq).mono HBY.out.size))
            have HQc := Lib.hid (HQb.out.trans ((below_regrown wb dq osq).mono HQb.out.size))
            clear E2 E3 T0 HQb HBY
            dsimp only
            generalize Go.Sort.grow (redrawn wb dq) osq = wc at HBX HQc ⊢
            go_wp2_with fail
            go_roundw
            case rel => exact ⟨k + 1, by omega, by go_num, by rw [HSUM.out], HBX.out, HQc.out⟩
            case measure => simp [intOf]; omega
          · obtain ⟨j, rfl⟩ : ∃ j, k = j + 1 := ⟨k - 1, by omega⟩
            obtain ⟨⟨o2, ho2, ho2l⟩, htj, hd1, hd2⟩ := HNX.out j rfl
            rw [HV9.out.len] at ho2l
            obtain ⟨tj, htje⟩ : ∃ t, T.getD j 0 = t := ⟨_, rfl⟩
            have x0 := cellI (HO9.out.below HQa.out HO9.out.low) (k := j) (by omega)
            have t2 := cellI HTa.out (k := j) (by omega)
            rw [ho2] at x0 hd2
            rw [atA_cast] at hd2
            rw [htje] at t2 htj hd1 hd2
            obtain ⟨aU, eU, -, hUc⟩ := (HV9.out.below HQa.out HV9.out.low).has.Arrival (k := o2) (by rw [HV9.out.len]; omega)
            injection eU with eU
            subst eU
            have u1 := hUc.c1
            simp only [addO, Nat.zero_add] at u1
            obtain ⟨b1, hb1⟩ : ∃ b, (vs.getD o2 noArrival).x1 = b := ⟨_, rfl⟩
            rw [hb1] at u1 hd2
            have X0 := fun (d : Nat) (os : Array Obj) => cell_regrown x0 d os
            have T2 := fun (d : Nat) (os : Array Obj) => cell_regrown t2 d os
            have U1 := fun (d : Nat) (os : Array Obj) => cell_regrown u1 d os
            have hkz : 0 < ((j + 1 : Nat) : Int) := by omega
            have hj0 : (0 : Int) ≤ (j : Int) := by omega
            have hj1 : (j : Int) < (lt : Int) := by omega
            have ho20 : (0 : Int) ≤ (o2 : Int) := by omega
            have ho21 : (o2 : Int) < (lt : Int) := by omega
            have hnd : ¬ t < tj + m := by omega
            clear HNX hz0 x0 t2 hUc u1 ho2 htje hb1
            cases b0 <;> cases b1
            all_goals
              (try (have hn2 : ¬ t < tj + 2 * m := by have := hd2 rfl; omega))
              clear hd2
              refine wp_region_quiet_below (by kernel_rfl) (by kernel_rfl) ?_
              repeat (go_big_quiet_step (first | fail))
              refine wpQuiet_nil ?_
              intro _ hw'
              obtain ⟨⟨dq, osq⟩, hw''⟩ := hw'
              subst hw''
              have HBY := Lib.hid (HBA2.out.trans ((below_regrown wa dq osq).mono HBA2.out.size))
              have HZ := Lib.hid (below_regrown wa dq osq)
              clear E1 E2 T0 X0 T2 U1 hnd HBA2
              dsimp only
              generalize Go.Sort.grow (redrawn wa dq) osq = wb at HBY HZ ⊢
              have HTb := Lib.hid (HTa.out.below HZ.out HTa.out.low)
              have HQb := Lib.hid (HQa.out.trans (HZ.out.mono HQa.out.size))
              have BBb := Lib.hid (BBa.out.all HZ.out)
              have e2 := BBb.out.c2
              have e3 := BBb.out.c3
              have t1 := cellI HTb.out hlt
              rw [HTE.out] at t1
              dsimp only at e2 e3
              have E2 := fun (d : Nat) (os : Array Obj) => cell_regrown e2 d os
              have E3 := fun (d : Nat) (os : Array Obj) => cell_regrown e3 d os
              have T0 := fun (d : Nat) (os : Array Obj) => cell_regrown t1 d os
              clear e2 e3 t1 HTa HQa BBa HZ BBb HTb HTE
              go_wp2_with fail
              refine wp_region_quiet_below (by kernel_rfl) (by kernel_rfl) ?_
              repeat (go_big_quiet_step (first | fail))
              refine wpQuiet_nil ?_
              intro _ hw'
              obtain ⟨⟨dq, osq⟩, hw''⟩ := hw'
              subst hw''
              have HBX := Lib.hid (HBY.out.trans ((below_regrown wb dq osq).mono HBY.out.size))
              have HQc := Lib.hid (HQb.out.trans ((below_regrown wb dq osq).mono HQb.out.size))
              clear E2 E3 T0 HQb HBY
              dsimp only
              generalize Go.Sort.grow (redrawn wb dq) osq = wc at HBX HQc ⊢
              go_wp2_with fail
              go_roundw
              case rel => exact ⟨j + 1 + 1, by omega, by go_num, by rw [HSUM.out], HBX.out, HQc.out⟩
              case measure => simp [intOf]; omega
        · obtain rfl : k = lt := by omega
          have hfin : S k = D := HSD.out
          have hnk : ¬ (k : Int) < (k : Int) := by omega
          rw [hfin] at *
          have HBX := HBW
          clear HV9 HO9 HT9 HBQ HBW HSK HSB HSD hsb
          go_wp2_with fail
          have D2 := Lib.hid (drawFC_any c (HC.out.on HBX.out))
          go_wp2_with fail
          refine D2.out.mono ?_
          rintro e w40 ⟨g4, q4, c4, us, rfl, hq4, hU, hb⟩
          have HB40 := Lib.hid (HBX.out.trans (hb.mono HBX.out.size))
          have HU := Lib.hid hU
          obtain ⟨K, y, hK⟩ := comeA_ex us
          obtain ⟨l4, hl4⟩ : ∃ l, K.length = l := ⟨_, rfl⟩
          have HKL := Lib.hid hl4
          have hl46 : l4 ≤ 6 := by rw [← hl4]; exact hK.len
          have HK := Lib.hid hK
          have HCO := Lib.hid (come_ord hK)
          have hyy : (y == y) = true := by simp
          clear D2 hU hb hK hl4 HBX
          go_wp2_with fail
          refine (comeI_any c4 HU.out (by omega) K y HK.out l4 HKL.out).mono ?_
          rintro e w41 ⟨g5, c5, rfl, ho, hb⟩
          have HB41 := Lib.hid (HB40.out.trans (hb.mono HB40.out.size))
          have HU1 := Lib.hid (HU.out.below hb HU.out.low)
          obtain ⟨hL, hc5⟩ := ownB_is ho
          have HP1 := Lib.hid hL
          clear hb ho hL HB40 HU
          go_wp2_with fail
          refine (comeS_any c4 HU1.out (by omega) K y HK.out l4 HKL.out).mono ?_
          rintro e w42 ⟨g6, c6, rfl, ho, hb⟩
          have HB42 := Lib.hid (HB41.out.trans (hb.mono HB41.out.size))
          have HU2 := Lib.hid (HU1.out.below hb HU1.out.low)
          have HP2 := Lib.hid (HP1.out.below hb HP1.out.low)
          have C3 := Lib.hid (vInt_same (some ⟨g5, 0, none⟩) (some ⟨g6, 0, none⟩) l4 c5 c6 _ _ K w42 HKL.out (by unfold maxLen; omega) HP2.out.has (own_IsIs ho).has)
          clear hb ho HB41 HU1 HP1 HK
          go_wp2_with fail
          refine C3.out.mono ?_
          rintro e w43 ⟨rfl, hD⟩
          have HB43 := Lib.hid (HB42.out.trans (hD.below _))
          have HU3 := Lib.hid (HU2.out.below (hD.below _) HU2.out.low)
          have HP3 := Lib.hid (HP2.out.below (hD.below _) HP2.out.low)
          have C4 := Lib.hid (areArrivals_any c4 HU3.out (by unfold maxLen; omega))
          rw [HCO.out.1] at C4
          clear hD C3 HB42 HU2 HP2
          go_wp2_with fail
          refine C4.out.mono ?_
          rintro e w44 ⟨rfl, hb⟩
          have HB44 := Lib.hid (HB43.out.trans (hb.mono HB43.out.size))
          cases y with
          | false =>
            clear hb C4 HB43 HU3 HP3 HCO
            go_wp2_with fail
            go_ret
            exact ⟨rfl, HB44.out⟩
          | true =>
            have HU4 := Lib.hid (HU3.out.below hb HU3.out.low)
            have HP4 := Lib.hid (HP3.out.below hb HP3.out.low)
            have C5 := Lib.hid (isOrderI_any c4 c5 HU4.out (by omega) HP4.out (by omega) hc5)
            rw [HCO.out.2 rfl] at C5
            clear hb C4 HB43 HU3 HP3 HCO
            go_wp2_with fail
            refine C5.out.mono ?_
            rintro e w45 ⟨rfl, hb⟩
            have HB45 := Lib.hid (HB44.out.trans (hb.mono HB44.out.size))
            clear hb C5 HB44 HU4 HP4
            go_wp2_with fail
            go_ret
            exact ⟨rfl, HB45.out⟩
theorem own : ownKnob Try.prog.godebug = none := by kernel_rfl
theorem laidOut : laidOutB Try.prog = true := by kernel_rfl

set_option maxRecDepth 100000 in
theorem lifted (os : Os) (started : os.Started) (H : Type) (enc : TypeId × Value → H) :
    ReturnsInHanded {} Try.checked os 4 .any (Rows.fnLockagesSpec.pre6 enc Try.prog Try.f4 Rows.fnLockagesRow.domain false) (Rows.fnLockagesSpec.post enc Try.prog Try.f4 false true false false) := by
  refine returnsInHanded_of_change (C := Try.checked) own started (by kernel_rfl) Try.func4
    (ChangeSpec.witness6 (enc := enc) (C := Try.checked) false ⟨#[], #[.slice none 0 0], []⟩ 8 (by kernel_rfl) (by kernel_rfl) (by kernel_rfl) (by kernel_rfl)) ?_
  intro W base args ds gs before hval0 hW hcnd _
  have hval : ∀ (j : Nat) t v, Try.f4.params[j]? = some t → args[j]? = some v → Value.okWide Try.prog W .any base t v := hval0
  have hW' := hW
  obtain ⟨p, q, hA0, hV, rfl, hfz, hnd⟩ := hW
  have hA : DataW.TrodAll enc Try.prog W 0 (fun _ => true) true Try.f4.params.toList args.toList ds p := hA0
  rw [Try.params4] at hA hval
  obtain ⟨v0, vs0, d0, ds0, p0, q0, hargs, rfl, rfl, h0, r0⟩ := trodAll_cons hA
  obtain ⟨rfl, rfl, rfl⟩ := trodAll_nil r0
  obtain rfl : args = #[v0] := by cases args; simp_all
  obtain ⟨rfl, rfl⟩ := trodVars_none hV
  obtain ⟨a0, len0, cap0, rfl⟩ := okWide_slice Try.underlying22 (hval 0 22 v0 rfl rfl)
  have k0 := h0
  have lt0 : ∀ x ∈ p0, x.block < W.heap.size := by obtain ⟨m, hm⟩ := k0; exact DataW.trod_lt m _ _ _ hm
  obtain ⟨z0, w0⟩ : ∃ zs, IsInts .u8 W a0 len0 zs := by
    obtain ⟨fuel, hf⟩ := h0
    rcases open_ints Try.underlying22 Try.underlying5 (by kernel_rfl) hf with ⟨hcs, _⟩ | ⟨x, l, c, zs, hcs, _, hl, hm, hz, _, hcell, hwz⟩
    · simp [Value.cells] at hcs
      obtain ⟨rfl, rfl, rfl⟩ := hcs
      exact ⟨[], isInts_nil _ W⟩
    · simp [Value.cells] at hcs
      obtain ⟨rfl, rfl, rfl⟩ := hcs
      exact ⟨_, isInts_some hl hm (by simpa using hz) hcell hwz⟩
  clear hA0 hval0
  refine (walk a0 len0 cap0 z0 W w0).mono fun e W' ⟨he, bel⟩ => ?_
  subst he
  exact ⟨_, rfl, _, _, _, [], _, [], hW', trodAll_mk1 (shut_bool Try.underlying4 _), (trodAll_cons_mk (Below.trod laidOut (by kernel_rfl) (of_decide_eq_true (by kernel_rfl)) k0 bel lt0) trodAll_mk0), rfl, bel.frame _, fun h => by cases h⟩

theorem over : Rows.fnLockagesRow.holds Try.pinned (OpenSpec.ofChange Rows.fnLockagesSpec) :=
  OpenClaim.holds_of_wide 4 Try.f4 rfl rfl rfl rfl rfl rfl rfl ⟨rfl, rfl, rfl, rfl, rfl⟩ rfl rfl rfl rfl rfl (by kernel_rfl) Try.func4 (by kernel_rfl)
    (of_decide_eq_true (by kernel_rfl)) (by unfold Func.isWrapper; first | (rw [if_pos (by decide +kernel)]; kernel_rfl) | (rw [if_neg (by decide +kernel)]; exact ⟨rfl, rfl⟩))
    (fun os started H enc _ => lifted os started H enc)

/-- The statement. -/
theorem proved : Rows.FnLockagesSaid := over
end Go.Proofs.Ytdleidlmjliapaa.fnLockages
