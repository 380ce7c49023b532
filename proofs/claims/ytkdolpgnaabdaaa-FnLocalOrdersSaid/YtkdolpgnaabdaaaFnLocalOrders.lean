/- FnLocalOrders holds: a local order is not worse than the first come one, and no exchange of neighbors makes it better; at every list of bytes. -/
import Derived.Test.YtkdolpgnaabdaaaBdD
import Derived.Test.YtkdolpgnaabdaaaBdG
import Derived.Test.YtkdolpgnaabdaaaVInt
import Derived.Test.YtkdolpgnaabdaaaBig
import Derived.Test.YtkdolpgnaabdaaaSt0
import Derived.OpenShut
import Derived.ShutString
import Derived.ChangeOld
import Derived.WalkLawsBesides
import Derived.Lib.SmallJoins
import Derived.Deep.RegionHeld3
namespace Go.Proofs.Ytkdolpgnaabdaaa.fnLocalOrders
open Go.ChangeShapes Go.WideShapes Go.ChangeAt Go.RowKit
open Go.ChangeMaps (open_string shut_string)
set_option linter.unusedVariables false
set_option linter.unusedSimpArgs false

theorem gain_bd {vs : List TArrival} {h : Bool} {m : Int} {os : List Int} {k z : Int} {x : Bool} (hA : GainA vs h m os k z x) : -600000 ≤ z ∧ z ≤ 600000 := by
  obtain ⟨rfl, rfl⟩ := hA
  split
  · next e =>
    unfold gG at e
    rw [Bool.and_eq_true, Bool.and_eq_true] at e
    obtain ⟨ho, hm⟩ := (gO_iff _ _ _).1 e.1
    have h1 := dly_bd h hm ho
    have h2 := dly_bd h hm ((oA_iff _ _).1 e.2.2)
    omega
  · omega
theorem Drawn.belowQ {w W : World} (h : Drawn w W) (B : Nat) : Below B w W := h.below B
theorem loc_all {vs : List TArrival} {h : Bool} {m : Int} {L L2 : List Int} {z lst : Int} {x4 : Bool} (hA : LocA vs h m L z true) (hB : BestA vs h m L2 lst x4) : x4 = true ∧ ComeA vs (comeO vs) true ∧ DelayA vs h m (comeO vs) (dly vs m h (comeO vs)) true ∧ DelayA vs h m L z true ∧ ¬ dly vs m h (comeO vs) < z ∧ ¬ z < lst ∧
    (comeO vs).length = vs.length ∧ L.length = vs.length := by
  obtain ⟨h1, h2, h3, h4, h5, h6⟩ := loc_yes hA
  obtain ⟨rfl, k2, k3, k4, k5⟩ := best_yes h5 hB
  obtain ⟨ho, hm⟩ := (gO_iff _ _ _).1 h1
  have e1 := delayA_of vs h m (comeO vs)
  rw [h3, if_pos rfl] at e1
  have e2 := delayA_of vs h m L
  rw [h1, if_pos rfl, ← h2] at e2
  have h7 := best_le (m := m) (h := h) ho
  have hc := comeA_comeO vs
  rw [gAs_yes ho.1] at hc
  exact ⟨rfl, hc, e1, e2, by omega, by omega, ((gO_iff _ _ _).1 h3).1.2.1, ho.2.1⟩
set_option maxRecDepth 100000 in
set_option maxHeartbeats 16000000 in
theorem walk (A : Option Addr) (n c : Nat) (zs : List Int) (w : World) (hI : IsInts .u8 w A n zs) :
    Calls Try.prog 4 #[.slice A n c] w fun e w' => e = .returned (.bool true) ∧ Below w.heap.size w w' := by
  by_cases hbig : 65536 < n
  · have CB := Lib.hid (bigL_yes A n c w hbig hI.2.1)
    clear hI
    go_enter Try.func4, Try.ntmps4
    go_wp2_with fail
    refine CB.out.mono ?_
    rintro e w1 ⟨rfl, rfl⟩
    go_wp2_with fail
    go_ret
    exact ⟨rfl, Below.refl _ _⟩
  · have CB := Lib.hid (bigL_no A n c w (by omega))
    have HC := Lib.hid (Code_.of hI (by omega))
    have D1 := Lib.hid (drawLoc_any c HC.out)
    clear hI hbig
    go_enter Try.func4, Try.ntmps4
    go_wp2_with fail
    refine CB.out.mono ?_
    rintro e w1 ⟨rfl, rfl⟩
    clear CB
    go_wp2_with fail
    refine D1.out.mono ?_
    rintro e w1 ⟨g1, q, c1, vs, hi, m, rfl, hq, hcq, hV, hb⟩
    have HB1 := Lib.hid hb
    have HV1 := Lib.hid hV
    obtain ⟨L, z, x, hA⟩ := locA_ex vs hi m
    obtain ⟨L2, lst, x4, hA4⟩ := bestA_ex vs hi m
    have HA := Lib.hid hA
    have HA4 := Lib.hid hA4
    have hL6 := hA.len
    obtain ⟨l, hl⟩ : ∃ l, L.length = l := ⟨_, rfl⟩
    rw [hl] at hL6
    have HLL := Lib.hid hl
    have hzz : (z != z) = false := by simp
    have hxx : (x != x) = false := by simp
    have C1 := Lib.hid (locI_any c1 HV1.out (by omega) hi m L z x hA l hl)
    clear hb D1 hV hA hA4 hl
    go_wp2_with fail
    refine C1.out.mono ?_
    rintro e w2 ⟨g9, c9, rfl, hown, hb⟩
    have HB2 := Lib.hid (HB1.out.trans (hb.mono HB1.out.size))
    have HV2 := Lib.hid (HV1.out.below hb HV1.out.low)
    have HL2 := Lib.hid (own_IsIs hown)
    have hc9 := own_capE hown
    have C2 := Lib.hid (locS_any c1 HV2.out (by omega) hi m L z x HA.out l HLL.out)
    clear hb hown C1 HB1 HV1
    go_wp2_with fail
    refine C2.out.mono ?_
    rintro e w3 ⟨g8, c8, rfl, hown, hb⟩
    have HB3 := Lib.hid (HB2.out.trans (hb.mono HB2.out.size))
    have HV3 := Lib.hid (HV2.out.below hb HV2.out.low)
    have HL3 := Lib.hid (HL2.out.below hb HL2.out.low)
    have C3 := Lib.hid (vInt_same (some ⟨g9, 0, none⟩) (some ⟨g8, 0, none⟩) l c9 c8 _ _ L w3 HLL.out (by unfold maxLen; omega) HL3.out.has (own_IsIs hown).has)
    clear hb hown C2 HB2 HV2 HL2
    go_wp2_with fail
    refine C3.out.mono ?_
    rintro e w4 ⟨rfl, hD⟩
    have HB4 := Lib.hid (HB3.out.trans (hD.below _))
    have HV4 := Lib.hid (HV3.out.below (hD.below _) HV3.out.low)
    have HL4 := Lib.hid (HL3.out.below (hD.below _) HL3.out.low)
    clear hD C3 HB3 HV3 HL3
    cases x with
    | false =>
      clear HV4 HL4 HA HA4
      go_wp2_with fail
      have D2 := Lib.hid (drawG_any c (HC.out.on HB4.out))
      go_wp2_with fail
      refine D2.out.mono ?_
      rintro e w20 ⟨g4, q4, c4, us, hj, mj, g5, q5, c5, ps, ko, rfl, hq4, hcq4, hq5, hc5, hko, hU, hP, hb⟩
      have HB20 := Lib.hid (HB4.out.trans (hb.mono HB4.out.size))
      have HU := Lib.hid hU
      have HP := Lib.hid hP
      obtain ⟨gz, gx, hA⟩ := gainA_ex us hj mj ps ko
      have HA := Lib.hid hA
      have hgb := gain_bd hA
      have C1 := Lib.hid (gainI_any c4 c5 hU (by omega) hP (by omega) hc5 hj mj ko gz gx hA)
      have hpp : (gz != gz) = false := by simp
      have hff : (gx != gx) = false := by simp
      clear D2 hU hP hb HB4 hA
      go_wp2_with fail
      refine C1.out.mono ?_
      rintro e w21 ⟨rfl, hb⟩
      have HB21 := Lib.hid (HB20.out.trans (hb.mono HB20.out.size))
      have HU21 := Lib.hid (HU.out.below hb HU.out.low)
      have HP21 := Lib.hid (HP.out.below hb HP.out.low)
      have C2 := Lib.hid (gainS_any c4 c5 HU21.out (by omega) HP21.out (by omega) hc5 hj mj ko gz gx HA.out)
      clear C1 hb HB20 HU HP
      go_wp2_with fail
      refine C2.out.mono ?_
      rintro e w22 ⟨rfl, hb⟩
      have HB22 := Lib.hid (HB21.out.trans (hb.mono HB21.out.size))
      have HU22 := Lib.hid (HU21.out.below hb HU21.out.low)
      have HP22 := Lib.hid (HP21.out.below hb HP21.out.low)
      clear C2 hb HB21 HU21 HP21
      cases gx with
      | true =>
        obtain ⟨j, rfl, hjl, hB⟩ := gain_back HA.out
        have HBK := Lib.hid hB
        rw [HP22.out.len] at hjl
        clear HA hB hff hpp
        obtain ⟨i0, hi, hz0, hz1, hz2⟩ := info_parts Try.infoInt'
        have HOWN : Hid ((w22.alloc (.cells #[] 3)).ownsRow w22.heap.size 3 1 (.slice (some ⟨w22.heap.size, 0, none⟩) 0 0) 0 []) := Lib.hid (World.ownsRow_made w22 #[] 0 (Nat.le_refl _) (by unfold maxLen; omega) rfl)
        have HBa := Lib.hid (below1 w22 (.cells #[] 3))
        have HLL : Hid ((ps.map (Value.int .i64)).length = q5 * 1) := Lib.hid (by rw [List.length_map, HP22.out.len, Nat.mul_one])
        have HNEW : Hid (∀ j u, (ps.map (Value.int .i64))[j]? = some u → (w22.alloc (.cells #[] 3)).cell? ((⟨g5, 0, none⟩ : Addr).add j) = some u) := Lib.hid (fun j u hu => by
          obtain ⟨a0, ea0, -, hc0⟩ := (HP22.out.below HBa.out HP22.out.low).has j u hu
          injection ea0 with ea0
          subst ea0
          exact hc0)
        have HXO : Hid (∀ u ∈ ps.map (Value.int .i64), u.oneCell' = true) := Lib.hid (fun u hu => by obtain ⟨q, -, rfl⟩ := List.mem_map.1 hu; rfl)
        go_wp2_with (at_builtin; refine wpList_append_own _ rfl (.tmp 189) (.tmp 190) 30 rfl w22.heap.size 3 i0 (.int .i64 0) 1 8 Try.underlying30 hi hz0 hz1 hz2 rfl (by decide) (.slice (some ⟨w22.heap.size, 0, none⟩) 0 0) 0 _ rfl HOWN.out ⟨g5, 0, none⟩ q5 c5 (ps.map (Value.int .i64)) rfl HLL.out HNEW.out HXO.out (by unfold maxLen; omega) (by omega) HBa.out.size ?_; intro v1 w23 hown1 hgrow1 hnil1; obtain ⟨g9, c9, rfl, hg9⟩ := own_some hown1 (fun e => nomatch (hnil1.1 e).1); have hb1 := HBa.out.grown hgrow1 HBa.out.size (fun q hq => by cases hq; exact Nat.le_refl _); clear hnil1 hgrow1; refine Hid.out ?_)
        rw [Nat.zero_add, List.nil_append] at hown1
        try rw [Nat.zero_add]
        have hc9 := own_capE hown1
        obtain ⟨x0, hgB⟩ := is_cellE (HP22.out.below hb1 HP22.out.low) (k := j) (by omega)
        obtain ⟨x1, -⟩ := is_cellE (HP22.out.below hb1 HP22.out.low) (k := j + 1) hjl
        have hlen := HP22.out.len
        have e0 : w23.cell? ⟨g9, j, none⟩ = some (.int .i64 (ps.getD j 0)) := (hown1.cellAt j (by omega)).trans (by rw [List.getElem?_map, List.getElem?_eq_getElem (by omega), List.getD_eq_getElem?_getD, List.getElem?_eq_getElem (by omega)]; rfl)
        have e1 : w23.cell? ⟨g9, j + 1, none⟩ = some (.int .i64 (ps.getD (j + 1) 0)) := (hown1.cellAt (j + 1) (by omega)).trans (by rw [List.getElem?_map, List.getElem?_eq_getElem (by omega), List.getD_eq_getElem?_getD, List.getElem?_eq_getElem (by omega)]; rfl)
        have hlow := HP22.out.low
        have HSW : Hid (swp ps j = (ps.set j (ps.getD (j + 1) 0)).set (j + 1) (ps.getD j 0)) := Lib.hid rfl
        have f0 := hown1.frozenAt j
        have f1 := hown1.frozenAt (j + 1)
        have hne : g5 ≠ g9 := by omega
        have hne2 : g9 ≠ g5 := by omega
        have HO := Lib.hid hown1
        have HB := Lib.hid hb1
        have hj0 : (0 : Int) ≤ (j : Int) := by omega
        have hj1 : (j : Int) < (q5 : Int) := by omega
        have hj2 : (j : Int) + 1 < (q5 : Int) := by omega
        have hj3 : (0 : Int) ≤ (j : Int) + 1 := by omega
        generalize ps.getD j 0 = y0 at x0 e0 HSW
        generalize ps.getD (j + 1) 0 = y1 at x1 e1 HSW
        clear hown1 hb1 hlen HNEW HLL HXO HOWN HBa hz0 hz1 hz2 hi
        refine Lib.hid ?_
        go_wp2_with fail
        have s0 := HO.out.stored j (.int .i64 y1)
        have s1 := s0.1.stored (j + 1) (.int .i64 y0)
        have HBX := Lib.hid ((HB.out.setCell (p := ⟨g9, j, none⟩) hg9 (.int .i64 y1)).setCell (p := ⟨g9, j + 1, none⟩) hg9 (.int .i64 y0))
        have HNS : Hid (((w23.setCell ⟨g9, j, none⟩ (.int .i64 y1)).setCell ⟨g9, j + 1, none⟩ (.int .i64 y0)).ownsRow w22.heap.size 3 1 (.slice (some ⟨g9, 0, none⟩) q5 c9) q5 ((swp ps j).map (.int .i64))) := Lib.hid (by rw [HSW.out, List.map_set, List.map_set]; exact s1.1)
        clear s0 s1 HO HB e0 e1 f0 f1 x0 x1 HSW
        obtain ⟨W9, hW9⟩ : ∃ x, (w23.setCell ⟨g9, j, none⟩ (.int .i64 y1)).setCell ⟨g9, j + 1, none⟩ (.int .i64 y0) = x := ⟨_, rfl⟩
        rw [hW9] at HBX HNS ⊢
        clear hW9
        have C3 := Lib.hid (gainI_any c4 c9 (HU22.out.below HBX.out HU22.out.low) (by omega) (own_IsIs HNS.out) (by omega) hc9 hj mj (j : Int) (-gz) true HBK.out)
        have hgg : (-gz == -gz) = true := by simp
        refine C3.out.mono ?_
        rintro e w24 ⟨rfl, hb⟩
        have HB24 := Lib.hid (HB22.out.trans ((HBX.out.trans (hb.mono HBX.out.size)).mono HB22.out.size))
        clear C3 hb HB22 HU22 HP22 HBX HNS HBK
        go_wp2_with fail
        go_ret
        exact ⟨rfl, HB24.out⟩
      | false =>
        clear HA HU22 HP22
        go_wp2_with fail
        go_ret
        exact ⟨rfl, HB22.out⟩
    | true =>
      obtain ⟨rfl, hcome, hd1, hd2, hn1, hn2, hcl, hll⟩ := loc_all HA.out HA4.out
      have HD1 := Lib.hid hd1
      have HD2 := Lib.hid hd2
      have HCL := Lib.hid hcl
      have hlq : l = q := by rw [← HLL.out, hll, HV4.out.len]
      subst hlq
      have C4 := Lib.hid (comeI_any c1 HV4.out (by omega) _ true hcome l (by rw [hcl, HV4.out.len]))
      obtain ⟨F, hF⟩ : ∃ F, comeO vs = F := ⟨_, rfl⟩
      rw [hF] at C4 HD1 HCL hn1
      obtain ⟨d1, hd⟩ : ∃ d, dly vs m hi F = d := ⟨_, rfl⟩
      rw [hd] at HD1 hn1
      clear hcome hd1 hd2 hcl hll hF hd
      go_wp2_with fail
      refine C4.out.mono ?_
      rintro e w5 ⟨g7, c7, rfl, hown, hb⟩
      have HB5 := Lib.hid (HB4.out.trans (hb.mono HB4.out.size))
      have HV5 := Lib.hid (HV4.out.below hb HV4.out.low)
      have HL5 := Lib.hid (HL4.out.below hb HL4.out.low)
      have hc7 := own_capE hown
      have C5 := Lib.hid (delayI_any c1 c7 HV5.out (by omega) (own_IsIs hown) (by omega) hc7 hi m d1 true HD1.out)
      clear hb hown C4 HB4 HV4 HL4
      go_wp2_with fail
      refine C5.out.mono ?_
      rintro e w6 ⟨rfl, hb⟩
      have HB6 := Lib.hid (HB5.out.trans (hb.mono HB5.out.size))
      have HV6 := Lib.hid (HV5.out.below hb HV5.out.low)
      have HL6 := Lib.hid (HL5.out.below hb HL5.out.low)
      clear hb C5 HB5 HV5 HL5
      have C6 := Lib.hid (delayI_any c1 c9 HV6.out (by omega) HL6.out (by omega) hc9 hi m z true HD2.out)
      go_wp2_with fail
      refine C6.out.mono ?_
      rintro e w7 ⟨rfl, hb⟩
      have HB7 := Lib.hid (HB6.out.trans (hb.mono HB6.out.size))
      have HV7 := Lib.hid (HV6.out.below hb HV6.out.low)
      have HL7 := Lib.hid (HL6.out.below hb HL6.out.low)
      clear hb C6 HB6 HV6 HL6
      have C7 := Lib.hid (bestI_any c1 HV7.out (by omega) hi m L2 lst true HA4.out L2.length rfl)
      go_wp2_with fail
      refine C7.out.mono ?_
      rintro e w8 ⟨v9, rfl, -, hb, -⟩
      have HB8 := Lib.hid (HB7.out.trans (hb.mono HB7.out.size))
      have HV8 := Lib.hid (HV7.out.below hb HV7.out.low)
      have HL8 := Lib.hid (HL7.out.below hb HL7.out.low)
      have HGA := Lib.hid (loc_yes HA.out).2.2.2.2.2
      clear hb C7 HB7 HV7 HL7 HD1 HD2 HA4 HCL
      go_wp2_with fail
      go_loopw [21] (fun i wr => ∃ k : Nat, k ≤ l ∧ i = .int .i64 k ∧ Below w8.heap.size w8 wr) (fun i _ => l - (intOf i).toNat)
      case atStart => exact ⟨0, Nat.zero_le _, rfl, Below.refl _ _⟩
      case round =>
        obtain ⟨k, hk, rfl, hb⟩ := hrel
        have HBK := Lib.hid hb
        by_cases hlt : k + 1 < l
        · obtain ⟨g, y, hG⟩ := gainA_ex vs hi m L (k : Int)
          have hgn := HGA.out k g y hG (by rw [HLL.out]; exact hlt)
          have C8 := Lib.hid (gainI_any c1 c9 (HV8.out.below hb HV8.out.low) (by omega) (HL8.out.below hb HL8.out.low) (by omega) hc9 hi m (k : Int) g y hG)
          have hk0 : (0 : Int) ≤ (k : Int) := by omega
          have hk1 : (k : Int) + 1 < (l : Int) := by omega
          have HGN := Lib.hid hgn
          clear hG hb hgn
          go_wp2_with fail
          refine C8.out.mono ?_
          rintro e w9 ⟨rfl, hb⟩
          have HBN := Lib.hid (HBK.out.trans (hb.mono HBK.out.size))
          clear hb C8 HBK
          cases y with
          | true =>
            have hg0 : ¬ 0 < g := by have := HGN.out rfl; omega
            clear HGN
            go_wp2_with fail
            go_roundw
            case rel => exact ⟨k + 1, by omega, by go_num, HBN.out⟩
            case measure => simp [intOf]; omega
          | false =>
            clear HGN
            go_wp2_with fail
            go_roundw
            case rel => exact ⟨k + 1, by omega, by go_num, HBN.out⟩
            case measure => simp [intOf]; omega
        · have hkn : ¬ (k : Int) + 1 < (l : Int) := by omega
          have HBX := Lib.hid (HB8.out.trans (hb.mono HB8.out.size))
          clear hb HBK HV8 HL8 HGA HB8
          go_wp2_with fail
          have D2 := Lib.hid (drawG_any c (HC.out.on HBX.out))
          go_wp2_with fail
          refine D2.out.mono ?_
          rintro e w20 ⟨g4, q4, c4, us, hj, mj, g5, q5, c5, ps, ko, rfl, hq4, hcq4, hq5, hc5, hko, hU, hP, hb⟩
          have HB20 := Lib.hid (HBX.out.trans (hb.mono HBX.out.size))
          have HU := Lib.hid hU
          have HP := Lib.hid hP
          obtain ⟨gz, gx, hA⟩ := gainA_ex us hj mj ps ko
          have HA := Lib.hid hA
          have hgb := gain_bd hA
          have C1 := Lib.hid (gainI_any c4 c5 hU (by omega) hP (by omega) hc5 hj mj ko gz gx hA)
          have hpp : (gz != gz) = false := by simp
          have hff : (gx != gx) = false := by simp
          clear D2 hU hP hb HBX hA
          go_wp2_with fail
          refine C1.out.mono ?_
          rintro e w21 ⟨rfl, hb⟩
          have HB21 := Lib.hid (HB20.out.trans (hb.mono HB20.out.size))
          have HU21 := Lib.hid (HU.out.below hb HU.out.low)
          have HP21 := Lib.hid (HP.out.below hb HP.out.low)
          have C2 := Lib.hid (gainS_any c4 c5 HU21.out (by omega) HP21.out (by omega) hc5 hj mj ko gz gx HA.out)
          clear C1 hb HB20 HU HP
          go_wp2_with fail
          refine C2.out.mono ?_
          rintro e w22 ⟨rfl, hb⟩
          have HB22 := Lib.hid (HB21.out.trans (hb.mono HB21.out.size))
          have HU22 := Lib.hid (HU21.out.below hb HU21.out.low)
          have HP22 := Lib.hid (HP21.out.below hb HP21.out.low)
          clear C2 hb HB21 HU21 HP21
          cases gx with
          | true =>
            obtain ⟨j, rfl, hjl, hB⟩ := gain_back HA.out
            have HBK := Lib.hid hB
            rw [HP22.out.len] at hjl
            clear HA hB hff hpp
            obtain ⟨i0, hi, hz0, hz1, hz2⟩ := info_parts Try.infoInt'
            have HOWN : Hid ((w22.alloc (.cells #[] 3)).ownsRow w22.heap.size 3 1 (.slice (some ⟨w22.heap.size, 0, none⟩) 0 0) 0 []) := Lib.hid (World.ownsRow_made w22 #[] 0 (Nat.le_refl _) (by unfold maxLen; omega) rfl)
            have HBa := Lib.hid (below1 w22 (.cells #[] 3))
            have HLL : Hid ((ps.map (Value.int .i64)).length = q5 * 1) := Lib.hid (by rw [List.length_map, HP22.out.len, Nat.mul_one])
            have HNEW : Hid (∀ j u, (ps.map (Value.int .i64))[j]? = some u → (w22.alloc (.cells #[] 3)).cell? ((⟨g5, 0, none⟩ : Addr).add j) = some u) := Lib.hid (fun j u hu => by
              obtain ⟨a0, ea0, -, hc0⟩ := (HP22.out.below HBa.out HP22.out.low).has j u hu
              injection ea0 with ea0
              subst ea0
              exact hc0)
            have HXO : Hid (∀ u ∈ ps.map (Value.int .i64), u.oneCell' = true) := Lib.hid (fun u hu => by obtain ⟨q, -, rfl⟩ := List.mem_map.1 hu; rfl)
            go_wp2_with (at_builtin; refine wpList_append_own _ rfl (.tmp 189) (.tmp 190) 30 rfl w22.heap.size 3 i0 (.int .i64 0) 1 8 Try.underlying30 hi hz0 hz1 hz2 rfl (by decide) (.slice (some ⟨w22.heap.size, 0, none⟩) 0 0) 0 _ rfl HOWN.out ⟨g5, 0, none⟩ q5 c5 (ps.map (Value.int .i64)) rfl HLL.out HNEW.out HXO.out (by unfold maxLen; omega) (by omega) HBa.out.size ?_; intro v1 w23 hown1 hgrow1 hnil1; obtain ⟨g9, c9, rfl, hg9⟩ := own_some hown1 (fun e => nomatch (hnil1.1 e).1); have hb1 := HBa.out.grown hgrow1 HBa.out.size (fun q hq => by cases hq; exact Nat.le_refl _); clear hnil1 hgrow1; refine Hid.out ?_)
            rw [Nat.zero_add, List.nil_append] at hown1
            try rw [Nat.zero_add]
            have hc9 := own_capE hown1
            obtain ⟨x0, hgB⟩ := is_cellE (HP22.out.below hb1 HP22.out.low) (k := j) (by omega)
            obtain ⟨x1, -⟩ := is_cellE (HP22.out.below hb1 HP22.out.low) (k := j + 1) hjl
            have hlen := HP22.out.len
            have e0 : w23.cell? ⟨g9, j, none⟩ = some (.int .i64 (ps.getD j 0)) := (hown1.cellAt j (by omega)).trans (by rw [List.getElem?_map, List.getElem?_eq_getElem (by omega), List.getD_eq_getElem?_getD, List.getElem?_eq_getElem (by omega)]; rfl)
            have e1 : w23.cell? ⟨g9, j + 1, none⟩ = some (.int .i64 (ps.getD (j + 1) 0)) := (hown1.cellAt (j + 1) (by omega)).trans (by rw [List.getElem?_map, List.getElem?_eq_getElem (by omega), List.getD_eq_getElem?_getD, List.getElem?_eq_getElem (by omega)]; rfl)
            have hlow := HP22.out.low
            have HSW : Hid (swp ps j = (ps.set j (ps.getD (j + 1) 0)).set (j + 1) (ps.getD j 0)) := Lib.hid rfl
            have f0 := hown1.frozenAt j
            have f1 := hown1.frozenAt (j + 1)
            have hne : g5 ≠ g9 := by omega
            have hne2 : g9 ≠ g5 := by omega
            have HO := Lib.hid hown1
            have HB := Lib.hid hb1
            have hj0 : (0 : Int) ≤ (j : Int) := by omega
            have hj1 : (j : Int) < (q5 : Int) := by omega
            have hj2 : (j : Int) + 1 < (q5 : Int) := by omega
            have hj3 : (0 : Int) ≤ (j : Int) + 1 := by omega
            generalize ps.getD j 0 = y0 at x0 e0 HSW
            generalize ps.getD (j + 1) 0 = y1 at x1 e1 HSW
            clear hown1 hb1 hlen HNEW HLL HXO HOWN HBa hz0 hz1 hz2 hi
            refine Lib.hid ?_
            go_wp2_with fail
            have s0 := HO.out.stored j (.int .i64 y1)
            have s1 := s0.1.stored (j + 1) (.int .i64 y0)
            have HBX := Lib.hid ((HB.out.setCell (p := ⟨g9, j, none⟩) hg9 (.int .i64 y1)).setCell (p := ⟨g9, j + 1, none⟩) hg9 (.int .i64 y0))
            have HNS : Hid (((w23.setCell ⟨g9, j, none⟩ (.int .i64 y1)).setCell ⟨g9, j + 1, none⟩ (.int .i64 y0)).ownsRow w22.heap.size 3 1 (.slice (some ⟨g9, 0, none⟩) q5 c9) q5 ((swp ps j).map (.int .i64))) := Lib.hid (by rw [HSW.out, List.map_set, List.map_set]; exact s1.1)
            clear s0 s1 HO HB e0 e1 f0 f1 x0 x1 HSW
            obtain ⟨W9, hW9⟩ : ∃ x, (w23.setCell ⟨g9, j, none⟩ (.int .i64 y1)).setCell ⟨g9, j + 1, none⟩ (.int .i64 y0) = x := ⟨_, rfl⟩
            rw [hW9] at HBX HNS ⊢
            clear hW9
            have C3 := Lib.hid (gainI_any c4 c9 (HU22.out.below HBX.out HU22.out.low) (by omega) (own_IsIs HNS.out) (by omega) hc9 hj mj (j : Int) (-gz) true HBK.out)
            have hgg : (-gz == -gz) = true := by simp
            refine C3.out.mono ?_
            rintro e w24 ⟨rfl, hb⟩
            have HB24 := Lib.hid (HB22.out.trans ((HBX.out.trans (hb.mono HBX.out.size)).mono HB22.out.size))
            clear C3 hb HB22 HU22 HP22 HBX HNS HBK
            go_wp2_with fail
            go_ret
            exact ⟨rfl, HB24.out⟩
          | false =>
            clear HA HU22 HP22
            go_wp2_with fail
            go_ret
            exact ⟨rfl, HB22.out⟩
theorem own : ownKnob Try.prog.godebug = none := by kernel_rfl
theorem laidOut : laidOutB Try.prog = true := by kernel_rfl

set_option maxRecDepth 100000 in
theorem lifted (os : Os) (started : os.Started) (H : Type) (enc : TypeId × Value → H) :
    ReturnsInHanded {} Try.checked os 4 .any (Rows.fnLocalOrdersSpec.pre6 enc Try.prog Try.f4 Rows.fnLocalOrdersRow.domain false) (Rows.fnLocalOrdersSpec.post enc Try.prog Try.f4 false true false false) := by
  refine returnsInHanded_of_change (C := Try.checked) own started (by kernel_rfl) Try.func4
    (ChangeSpec.witness6 (enc := enc) (C := Try.checked) false ⟨#[], #[.slice none 0 0], []⟩ 8 (by kernel_rfl) (by kernel_rfl) (by kernel_rfl) (by kernel_rfl)) ?_
  intro W base args ds gs before hval0 hW hcnd _
  have hval : ∀ (j : Nat) t v, Try.f4.params[j]? = some t → args[j]? = some v → Value.okWide Try.prog W .any base t v := hval0
  have hW' := hW
  obtain ⟨p, q, hA0, hV, rfl, hfz, hnd⟩ := hW
  have hA : DataW.TrodAll enc Try.prog W 0 (fun _ => true) true Try.f4.params.toList args.toList ds p := hA0
  rw [Try.params4] at hA hval
  obtain ⟨v0, vs0, d0, ds0, p0, q0, hargs, rfl, rfl, h0, r0⟩ := trodAll_cons hA
  obtain ⟨rfl, rfl, rfl⟩ := trodAll_nil r0
  obtain rfl : args = #[v0] := by cases args; simp_all
  obtain ⟨rfl, rfl⟩ := trodVars_none hV
  obtain ⟨a0, len0, cap0, rfl⟩ := okWide_slice Try.underlying22 (hval 0 22 v0 rfl rfl)
  have k0 := h0
  have lt0 : ∀ x ∈ p0, x.block < W.heap.size := by obtain ⟨m, hm⟩ := k0; exact DataW.trod_lt m _ _ _ hm
  obtain ⟨z0, w0⟩ : ∃ zs, IsInts .u8 W a0 len0 zs := by
    obtain ⟨fuel, hf⟩ := h0
    rcases open_ints Try.underlying22 Try.underlying5 (by kernel_rfl) hf with ⟨hcs, _⟩ | ⟨x, l, c, zs, hcs, _, hl, hm, hz, _, hcell, hwz⟩
    · simp [Value.cells] at hcs
      obtain ⟨rfl, rfl, rfl⟩ := hcs
      exact ⟨[], isInts_nil _ W⟩
    · simp [Value.cells] at hcs
      obtain ⟨rfl, rfl, rfl⟩ := hcs
      exact ⟨_, isInts_some hl hm (by simpa using hz) hcell hwz⟩
  clear hA0 hval0
  refine (walk a0 len0 cap0 z0 W w0).mono fun e W' ⟨he, bel⟩ => ?_
  subst he
  exact ⟨_, rfl, _, _, _, [], _, [], hW', trodAll_mk1 (shut_bool Try.underlying4 _), (trodAll_cons_mk (Below.trod laidOut (by kernel_rfl) (of_decide_eq_true (by kernel_rfl)) k0 bel lt0) trodAll_mk0), rfl, bel.frame _, fun h => by cases h⟩

theorem over : Rows.fnLocalOrdersRow.holds Try.pinned (OpenSpec.ofChange Rows.fnLocalOrdersSpec) :=
  OpenClaim.holds_of_wide 4 Try.f4 rfl rfl rfl rfl rfl rfl rfl ⟨rfl, rfl, rfl, rfl, rfl⟩ rfl rfl rfl rfl rfl (by kernel_rfl) Try.func4 (by kernel_rfl)
    (of_decide_eq_true (by kernel_rfl)) (by unfold Func.isWrapper; first | (rw [if_pos (by decide +kernel)]; kernel_rfl) | (rw [if_neg (by decide +kernel)]; exact ⟨rfl, rfl⟩))
    (fun os started H enc _ => lifted os started H enc)

/-- The statement. -/
theorem proved : Rows.FnLocalOrdersSaid := over
end Go.Proofs.Ytkdolpgnaabdaaa.fnLocalOrders
