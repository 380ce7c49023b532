/- FnRows holds: the shortest row is placed safely and no other is shorter; at every list of bytes. -/
import Derived.Test.YtgnopkemcgbedabRwM
import Derived.Test.YtgnopkemcgbedabSeBig
import Derived.Test.YtgnopkemcgbedabSt0
import Derived.OpenShut
import Derived.ShutString
import Derived.ChangeOld
import Derived.WalkLawsBesides
import Derived.Lib.SmallJoins
import Derived.Deep.RegionHeld3
namespace Go.Proofs.Ytgnopkemcgbedab.fnRows
open Go.ChangeShapes Go.WideShapes Go.ChangeAt Go.RowKit Go.PlainAid Go.Sort
open Go.ChangeMaps (open_string shut_string)
set_option linter.unusedVariables false
set_option linter.unusedSimpArgs false

set_option maxRecDepth 100000 in
set_option maxHeartbeats 16000000 in
theorem walk (A : Option Addr) (n c : Nat) (zs : List Int) (w : World) (hI : IsInts .u8 w A n zs) :
    Calls Try.prog 4 #[.slice A n c] w fun e w' => e = .returned (.bool true) ∧ Below w.heap.size w w' := by
  have CB := Lib.hid (fun W => rBig_any A n c W hI.2.1)
  by_cases hbig : (65536 : Int) < (n : Int)
  · rw [decide_eq_true hbig] at CB
    clear hI
    go_enter Try.func4, Try.ntmps4
    go_wp2_with fail
    refine (CB.out _).mono ?_
    rintro e w1 ⟨rfl, rfl⟩
    go_wp2_with fail
    go_ret
    exact ⟨rfl, Below.refl _ _⟩
  · rw [decide_eq_false hbig] at CB
    obtain ⟨i0, hi, hz0, hz1, hz2⟩ := info_parts Try.infoCargo'
    have HCD := Lib.hid (Code_.of hI (by omega))
    have D1 := Lib.hid (drawR_any c HCD.out)
    clear hI hbig
    go_enter Try.func4, Try.ntmps4
    go_wp2_with fail
    refine (CB.out _).mono ?_
    rintro e w1 ⟨rfl, rfl⟩
    clear CB
    go_wp2_with fail
    refine D1.out.mono ?_
    rintro e w2 ⟨g1, c1, q, vs, rfl, hq, hqc, hV, hb⟩
    have HB2 := Lib.hid hb
    have HV2 := Lib.hid hV
    have hlen := hV.len
    obtain ⟨L, z, x, hA1⟩ := shortA_ex vs
    obtain ⟨Lc, x2, hA2⟩ := placeA_ex vs
    obtain ⟨z3, x3, hA3⟩ := extA_ex vs
    obtain rfl : x2 = x := (place_x hA2).trans (rows_x hA1).symm
    obtain rfl : x3 = x2 := (ext_x hA3).trans (place_x hA2).symm
    have HA1 := Lib.hid hA1
    have HA2 := Lib.hid hA2
    have HA3 := Lib.hid hA3
    have HX := Lib.hid (rows_x hA1)
    have hm6 := shortA_len hA1
    have hk6 := PlaceA.len hA2
    have hzz : (z != z) = false := by simp
    have hyy : (z3 != z3) = false := by simp
    have hxx : (x3 != x3) = false := by simp
    have C1 := Lib.hid (shortI_any c1 HV2.out (by omega) hqc L z x3 hA1 L.length rfl)
    clear hb D1 hV hA1 hA2 hA3
    go_wp2_with fail
    refine C1.out.mono ?_
    rintro e w3 ⟨g4, c4, rfl, ho, hb⟩
    have HB3 := Lib.hid (HB2.out.trans (hb.mono HB2.out.size))
    have HV3 := Lib.hid (HV2.out.below hb HV2.out.low)
    have HI3 := Lib.hid (ownS_has ho)
    have C2 := Lib.hid (shortS_any c1 HV3.out (by omega) L z x3 HA1.out L.length rfl)
    clear hb ho C1 HB2 HV2
    go_wp2_with fail
    refine C2.out.mono ?_
    rintro e w4 ⟨g5, c5, rfl, ho, hb⟩
    have HB4 := Lib.hid (HB3.out.trans (hb.mono HB3.out.size))
    have HV4 := Lib.hid (HV3.out.below hb HV3.out.low)
    have HI4 := Lib.hid (has_on HI3.out hb)
    have C3 := Lib.hid (rInts_two (some ⟨g4, 0, none⟩) (some ⟨g5, 0, none⟩) L.length c4 c5 _ _ L w4 rfl (by unfold maxLen; omega) HI4.out (ownS_has ho))
    clear hb ho C2 HB3 HV3 HI3
    go_wp2_with fail
    refine C3.out.mono ?_
    rintro e w5 ⟨rfl, hb⟩
    have HB5 := Lib.hid (HB4.out.trans (hb.mono HB4.out.size))
    have HV5 := Lib.hid (HV4.out.below hb HV4.out.low)
    have HI5 := Lib.hid (has_on HI4.out hb)
    have C4 := Lib.hid (placeI_any c1 HV5.out (by omega) hqc Lc x3 HA2.out Lc.length rfl)
    clear hb C3 HB4 HV4 HI4
    go_wp2_with fail
    refine C4.out.mono ?_
    rintro e w6 ⟨g6, c6, rfl, ho, hb⟩
    have HB6 := Lib.hid (HB5.out.trans (hb.mono HB5.out.size))
    have HV6 := Lib.hid (HV5.out.below hb HV5.out.low)
    have HI6 := Lib.hid (has_on HI5.out hb)
    have HC6 := Lib.hid (ownS_has ho)
    have hlc6 := own_capR ho
    have C5 := Lib.hid (extI_any c1 HV6.out (by omega) hqc z3 x3 HA3.out)
    clear hb ho C4 HB5 HV5 HI5
    go_wp2_with fail
    refine C5.out.mono ?_
    rintro e w7 ⟨rfl, hb⟩
    have HB7 := Lib.hid (HB6.out.trans (hb.mono HB6.out.size))
    have HV7 := Lib.hid (HV6.out.below hb HV6.out.low)
    have HI7 := Lib.hid (has_on HI6.out hb)
    have HC7 := Lib.hid (has_on HC6.out hb)
    have C6 := Lib.hid (placeS_any c1 HV7.out (by omega) hqc Lc x3 HA2.out Lc.length rfl)
    clear hb C5 HB6 HV6 HI6 HC6
    go_wp2_with fail
    refine C6.out.mono ?_
    rintro e w8 ⟨g7, c7, rfl, ho, hb⟩
    have HB8 := Lib.hid (HB7.out.trans (hb.mono HB7.out.size))
    have HV8 := Lib.hid (HV7.out.below hb HV7.out.low)
    have HI8 := Lib.hid (has_on HI7.out hb)
    have HC8 := Lib.hid (has_on HC7.out hb)
    have C7 := Lib.hid (rInts_two (some ⟨g6, 0, none⟩) (some ⟨g7, 0, none⟩) Lc.length c6 c7 _ _ Lc w8 rfl (by unfold maxLen; omega) HC8.out (ownS_has ho))
    clear hb ho C6 HB7 HV7 HI7 HC7
    go_wp2_with fail
    refine C7.out.mono ?_
    rintro e w9 ⟨rfl, hb⟩
    have HB9 := Lib.hid (HB8.out.trans (hb.mono HB8.out.size))
    have HV9 := Lib.hid (HV8.out.below hb HV8.out.low)
    have HI9 := Lib.hid (has_on HI8.out hb)
    have HC9 := Lib.hid (has_on HC8.out hb)
    have C8 := Lib.hid (extS_any c1 HV9.out (by omega) z3 x3 HA3.out)
    clear hb C7 HB8 HV8 HI8 HC8
    go_wp2_with fail
    refine C8.out.mono ?_
    rintro e w10 ⟨rfl, hb⟩
    have HB10 := Lib.hid (HB9.out.trans (hb.mono HB9.out.size))
    have HV10 := Lib.hid (HV9.out.below hb HV9.out.low)
    have HI10 := Lib.hid (has_on HI9.out hb)
    have HC10 := Lib.hid (has_on HC9.out hb)
    clear hb C8 HB9 HV9 HI9 HC9
    cases x3 with
    | false =>
      clear HV10 HI10 HC10 HA1 HA2 HA3 HX
      have D2 := Lib.hid (drawSafe_any c (HCD.out.on HB10.out))
      go_wp2_with fail
      refine D2.out.mono ?_
      rintro e w30 ⟨g8, q8, c8, us, g9, m9, c9, ps, rfl, hq8, hqc8, hl9, hm9, hU, hP, hb⟩
      have HB30 := Lib.hid (HB10.out.trans (hb.mono HB10.out.size))
      obtain ⟨R8, x8, hS8⟩ := safeA_ex us ps
      obtain ⟨N8, y8, hU8⟩ := unsA_ex us ps
      have HS8 := Lib.hid hS8
      have HU8 := Lib.hid hU8
      obtain ⟨rfl, hR8⟩ := safe_uns hU8 hS8
      have HR8 := Lib.hid hR8
      have hN8 := Lib.hid hU8.len
      have C1 := Lib.hid (safeI_any c8 c9 hU (by omega) hqc8 hl9 (by omega) (Nat.le_refl _) hP R8 x8 hS8)
      have HU30 := Lib.hid hU
      have HP30 := Lib.hid hP
      clear D2 hU hP hb HB10 hS8 hU8 hR8
      go_wp2_with fail
      refine C1.out.mono ?_
      rintro e w31 ⟨rfl, hb⟩
      have HB31 := Lib.hid (HB30.out.trans (hb.mono HB30.out.size))
      have HU31 := Lib.hid (HU30.out.below hb HU30.out.low)
      have HP31 := Lib.hid (has_on HP30.out hb)
      have C2 := Lib.hid (unsI_any c8 c9 HU31.out (by omega) hqc8 hl9 (by omega) (Nat.le_refl _) HP31.out N8 x8 HU8.out)
      clear hb C1 HB30 HU30 HP30
      go_wp2_with fail
      refine C2.out.mono ?_
      rintro e w32 ⟨ga, ca, M1, rfl, hM1, ho1, hE1, hb⟩
      have HB32 := Lib.hid (HB31.out.trans (hb.mono HB31.out.size))
      have HU32 := Lib.hid (HU31.out.below hb HU31.out.low)
      have HP32 := Lib.hid (has_on HP31.out hb)
      have HO1 := Lib.hid ho1
      have HE1 := Lib.hid hE1
      have HM1 := Lib.hid hM1
      have C3 := Lib.hid (unsS_any c8 c9 HU32.out (by omega) hl9 (by omega) (Nat.le_refl _) HP32.out N8 x8 HU8.out)
      clear hb C2 HB31 HU31 HP31 ho1 hE1 hM1
      go_wp2_with fail
      refine C3.out.mono ?_
      rintro e w33 ⟨gb, cb, M2, rfl, hM2, ho2, hE2, hb⟩
      have HB33 := Lib.hid (HB32.out.trans (hb.mono HB32.out.size))
      have HU33 := Lib.hid (HU32.out.below hb HU32.out.low)
      have HP33 := Lib.hid (has_on HP32.out hb)
      have hl1 : M1.length = N8.length := by rw [← HM1.out, numsPr_len]
      have hl2 : M2.length = N8.length := by rw [← hM2, numsPr_len]
      rw [hl2] at ho2
      have HL1 := Lib.hid hl1
      have HO3 := Lib.hid (own_below HO1.out hb)
      rw [hl1] at HO3
      have CT := Lib.hid (rTable_same (HM1.out.trans hM2.symm) hl1 (by have := hN8.out; omega) HO3.out (HE1.out.all hb) ho2 hE2)
      have CS := Lib.hid (fun W (hq : Below w33.heap.size w33 W) => safeS_any c8 c9 (HU33.out.below hq HU33.out.low) (by omega) hl9 (by omega) (Nat.le_refl _) (has_on HP33.out hq) R8 x8 HS8.out)
      rw [hl1, hl2]
      have hxx8 : (x8 != x8) = false := by simp
      have hxe8 : (x8 == x8) = true := by simp
      have hre8 : (R8 == R8) = true := by simp
      have HRR : Hid (x8 = true → R8 = decide (N8.length = 0)) := Lib.hid (fun h => by rw [HR8.out, h]; simp)
      generalize N8.length = l8 at CT HRR ⊢
      clear hb C3 HB32 HU32 HP32 ho2 hE2 hM2 HO1 HE1 HM1 hl1 hl2 HL1 HO3 hN8 HR8 HS8 HU8
      go_wp2_with fail
      refine CT.out.mono ?_
      rintro e w34 ⟨rfl, hb⟩
      have HB34 := Lib.hid (HB33.out.trans (hb.mono HB33.out.size))
      have C5 := Lib.hid (CS.out _ hb)
      clear hb CT CS HB33 HU33 HP33
      go_wp2_with fail
      refine C5.out.mono ?_
      rintro e w35 ⟨rfl, hb⟩
      have HB35 := Lib.hid (HB34.out.trans (hb.mono HB34.out.size))
      clear hb C5 HB34
      cases x8 with
      | false =>
        go_wp2_with fail
        go_ret
        exact ⟨rfl, HB35.out⟩
      | true =>
        obtain rfl := HRR.out rfl
        clear HRR
        by_cases h80 : l8 = 0
        · subst h80
          go_wp2_with fail
          go_ret
          exact ⟨rfl, HB35.out⟩
        · have h81 : ((l8 : Int) == 0) = false := by simp; omega
          have h82 : decide (l8 = 0) = false := by simp; exact h80
          rw [h82]
          go_wp2_with fail
          go_ret
          exact ⟨rfl, HB35.out⟩
    | true =>
      have hgc := HX.out.symm
      obtain ⟨P, hP, hLP, hzP, hle, hgP⟩ := rows_ex HA1.out hgc
      obtain ⟨hLc, -⟩ := HA2.out.1 hgc
      have hz3 := (HA3.out.1 hgc).1
      have hlt3 : ¬ z3 < z := by rw [hz3]; omega
      have HGC := Lib.hid hgc
      have HPP := Lib.hid hP
      have HZP := Lib.hid hzP
      have HGP := Lib.hid hgP
      have HLP := Lib.hid hLP
      have hPl : P.length = q := by rw [hP.length_eq, hlen]
      have hLl : L.length = q := by rw [hLP, List.length_map, hPl]
      have hq6 : q ≤ 6 := by have := ((gCs_iff vs).1 hgc).1; omega
      obtain ⟨R1, y1, hS1⟩ := safeA_ex vs Lc
      obtain ⟨N1, y2, hU1⟩ := unsA_ex vs Lc
      have HS1 := Lib.hid hS1
      have HU1 := Lib.hid hU1
      rw [hLc] at hS1 hU1
      obtain ⟨hN1, rfl, rfl, rfl⟩ := placed_safe hgc hU1 hS1
      subst hN1
      have C9 := Lib.hid (safeI_any c1 c6 HV10.out (by omega) hqc rfl (by omega) (Nat.le_refl _) HC10.out true true HS1.out)
      rw [hLl]
      clear hP hLP hzP hle hgP hLc hz3 hS1 hU1 hgc HA1 HA2 HA3 HX
      go_wp2_with fail
      refine C9.out.mono ?_
      rintro e w11 ⟨rfl, hb⟩
      have HB11 := Lib.hid (HB10.out.trans (hb.mono HB10.out.size))
      have HV11 := Lib.hid (HV10.out.below hb HV10.out.low)
      have HI11 := Lib.hid (has_on HI10.out hb)
      have HC11 := Lib.hid (has_on HC10.out hb)
      have CA := Lib.hid (unsI_any c1 c6 HV11.out (by omega) hqc rfl (by omega) (Nat.le_refl _) HC11.out [] true HU1.out)
      clear hb C9 HB10 HV10 HI10 HC10
      go_wp2_with fail
      refine CA.out.mono ?_
      rintro e w12 ⟨gp, cp, M1, rfl, hM1, -, -, hb⟩
      obtain rfl : M1 = [] := List.map_eq_nil_iff.1 hM1
      have HB12 := Lib.hid (HB11.out.trans (hb.mono HB11.out.size))
      have HV12 := Lib.hid (HV11.out.below hb HV11.out.low)
      have HI12 := Lib.hid (has_on HI11.out hb)
      have HBW := Lib.hid (HB12.out.alloc HB12.out.size (.cells #[] 54))
      have HOW : Hid ((w12.alloc (.cells #[] 54)).ownsRow w12.heap.size 54 3 (.slice (some ⟨w12.heap.size, 0, none⟩) 0 0) 0 (flatCargo ([] : List TCargo))) := Lib.hid (World.ownsRow_made w12 #[] 0 (Nat.le_refl _) (by unfold maxLen; omega) rfl)
      have HBQ := Lib.hid (below1x w12 (.cells #[] 54))
      clear hb CA HB11 HV11 HI11 HC11 hM1 HS1 HU1 hzz hyy hxx
      go_wp2_with fail
      obtain ⟨W3, hW3⟩ : ∃ x, w12.alloc (.cells #[] 54) = x := ⟨_, rfl⟩
      rw [hW3] at HBW HOW HBQ ⊢
      clear hW3
      go_loopw [22, 23] (fun v i wr => ∃ (k g c : Nat), k ≤ q ∧ i = .int .i64 k ∧ v = .slice (some ⟨g, 0, none⟩) k c ∧ w12.heap.size ≤ g ∧ wr.ownsRow w12.heap.size 54 3 (.slice (some ⟨g, 0, none⟩) k c) k (flatCargo (P.take k)) ∧ Below w.heap.size w wr ∧ Below w12.heap.size w12 wr) (fun _ i _ => q - (intOf i).toNat)
      case atStart => exact ⟨0, w12.heap.size, 0, Nat.zero_le _, rfl, rfl, Nat.le_refl _, HOW.out, HBW.out, HBQ.out⟩
      case round =>
        clear HOW HBW HBQ
        obtain ⟨k, g, cg, hk, rfl, rfl, hg, hown, hbw, hbq⟩ := hrel
        have HOW := Lib.hid hown
        have HBW := Lib.hid hbw
        have HBQ := Lib.hid hbq
        clear hown hbw hbq
        by_cases hlt : k < q
        · have hk0 : (0 : Int) ≤ (k : Int) := by omega
          have hk1 : (k : Int) < (q : Int) := by omega
          have hkP : k < P.length := by omega
          have HD := Lib.hid (fun W (hq9 : Below w12.heap.size w12 W) => (has_on HI12.out hq9).intAt (k := k) (by omega))
          have hLk : L[k]'(by omega) = (P.getD k noCargo).x0 := by
            have := HLP.out
            subst this
            rw [List.getElem_map, getCargo hkP]
          have HALL := Lib.hid (pickR_all HGC.out HPP.out hkP)
          have HTK := Lib.hid (takeC_snoc hkP)
          rw [hLk] at HD
          obtain ⟨D, hD⟩ : ∃ D, P.getD k noCargo = D := ⟨_, rfl⟩
          rw [hD] at HD HALL HTK
          obtain ⟨d0, d1, d2⟩ := D
          dsimp only at HD HALL
          clear hD hLk
          go_wp2_with fail
          go_loopw [22, 24] (fun v i wi => ∃ (j g c l : Nat), j ≤ q ∧ i = .int .i64 j ∧ l = k + (pickR vs d0 j).length ∧ v = .slice (some ⟨g, 0, none⟩) l c ∧ w12.heap.size ≤ g ∧ wi.ownsRow w12.heap.size 54 3 (.slice (some ⟨g, 0, none⟩) l c) l (flatCargo (P.take k ++ pickR vs d0 j)) ∧ Below w.heap.size w wi ∧ Below w12.heap.size w12 wi) (fun _ i _ => q - (intOf i).toNat)
          case atStart => exact ⟨0, g, cg, k, Nat.zero_le _, rfl, rfl, rfl, hg, (by show wr.ownsRow _ _ _ _ _ (flatCargo (P.take k ++ [])); rw [List.append_nil]; exact HOW.out), HBW.out, HBQ.out⟩
          case round =>
            clear HOW HBW HBQ hg
            obtain ⟨j, g, cg, l, hj, rfl, hl, rfl, hg, hown, hbw, hbq⟩ := hrel
            have HOW := Lib.hid hown
            have HBW := Lib.hid hbw
            have HBQ := Lib.hid hbq
            have hpl := pickR_len vs d0 j
            have hl12 : l ≤ 12 := by omega
            have HLN := Lib.hid hl
            clear hl
            clear hown hbw hbq
            by_cases hlj : j < q
            · have hj0 : (0 : Int) ≤ (j : Int) := by omega
              have hj1 : (j : Int) < (q : Int) := by omega
              have HCAR := Lib.hid (fun W (hq9 : Below w12.heap.size w12 W) => (HV12.out.below hq9 HV12.out.low).has.Cargo (k := j) (by omega))
              have HPK := Lib.hid (pickR_snoc (vs := vs) (d := d0) (k := j) (by omega))
              obtain ⟨V, hV⟩ : ∃ V, vs.getD j noCargo = V := ⟨_, rfl⟩
              rw [hV] at HCAR HPK
              obtain ⟨v0, v1, v2⟩ := V
              try dsimp only at HPK
              obtain ⟨aV, eV, -, hVc⟩ := HCAR.out _ HBQ.out
              injection eV with eV
              subst eV
              obtain ⟨u0, u1, u2⟩ := hVc
              simp only [addO, Nat.zero_add] at u0 u1 u2
              try dsimp only at u0 u1 u2
              obtain ⟨aD, eD, -, hDc⟩ := HD.out _ HBQ.out
              injection eD with eD
              subst eD
              simp only [addO, Nat.zero_add] at hDc
              have U0 := fun (d : Nat) (os : Array Obj) => cell_regrown u0 d os
              have U1 := fun (d : Nat) (os : Array Obj) => cell_regrown u1 d os
              have U2 := fun (d : Nat) (os : Array Obj) => cell_regrown u2 d os
              have UD := fun (d : Nat) (os : Array Obj) => cell_regrown hDc d os
              clear hV u0 u1 u2 hDc
              by_cases he : v0 = d0
              · subst he
                have hee : (v0 == v0) = true := by simp
                go_wp2_with fail
                refine wp_region_quiet_below (by kernel_rfl) (by kernel_rfl) ?_
                repeat (go_big_quiet_step (first | fail))
                refine wpQuiet_nil ?_
                intro _ hw'
                obtain ⟨⟨dq, osq⟩, hw''⟩ := hw'
                subst hw''
                have HBX := Lib.hid (HBW.out.trans ((below_regrown wr dq osq).mono HBW.out.size))
                have hbX := Lib.hid (HBQ.out.trans ((below_regrown wr dq osq).mono HBQ.out.size))
                have hoX := Lib.hid (own_below HOW.out (below_regrown wr dq osq))
                have w0c := U0 dq osq
                have w1c := U1 dq osq
                have w2c := U2 dq osq
                clear U0 U1 U2 UD
                obtain ⟨wq, hwq⟩ : ∃ x, grow (redrawn wr dq) osq = x := ⟨_, rfl⟩
                rw [hwq] at hbX hoX HBX w0c w1c w2c ⊢
                clear hwq HBW HBQ HOW HALL
                have hgB : w.heap.size ≤ g := Nat.le_trans HB12.out.size hg
                have hqs := hbX.out.size
                have HBA := Lib.hid (HBX.out.alloc HBX.out.size (.cells #[.int .i64 v0, .int .i64 v1, .int .i64 v2] 54))
                have HQA := Lib.hid (hbX.out.alloc hbX.out.size (.cells #[.int .i64 v0, .int .i64 v1, .int .i64 v2] 54))
                have hws := HBX.out.size
                go_wp2_with (at_builtin; go_loud (refine wpList_append_own _ rfl (.tmp 158) (.tmp 163) 42 rfl w12.heap.size 54 i0 (.agg #[.int .i64 0, .int .i64 0, .int .i64 0]) 3 24 Try.underlying42 hi hz0 hz1 hz2 rfl (by decide) (.slice (some ⟨g, 0, none⟩) l cg) l _ rfl (hoX.out.alloc (.cells #[.int .i64 v0, .int .i64 v1, .int .i64 v2] 54)) ⟨wq.heap.size, 0, none⟩ 1 1 [.int .i64 v0, .int .i64 v1, .int .i64 v2] rfl rfl (cell_three_new _ _ _ _ _) (by simp [Value.oneCell']) (by unfold maxLen; omega) (by omega) (by simp; omega) ?_; intro v9 w9x hown1 hgrow1 hnil1; obtain ⟨g9, c9, rfl, hg9⟩ := own_some hown1 (fun e => nomatch (hnil1.1 e).1); have HO9 := Lib.hid hown1; have HB9 := Lib.hid (HBA.out.grown hgrow1 (by simp; omega) (fun r e => by cases e; exact hgB)); have HQ9 := Lib.hid (HQA.out.grown hgrow1 (by simp; omega) (fun r e => by cases e; exact hg)); clear hnil1 hgrow1 hown1 HBA HQA hoX HBX hbX))
                go_roundw
                case rel => exact ⟨j + 1, g9, c9, l + 1, by omega, by go_num, (by rw [HPK.out, if_pos (c := True) trivial, List.length_append, HLN.out]; rfl), rfl, hg9, (by rw [HPK.out, if_pos (c := True) trivial, ← List.append_assoc, flatCargo_append]; exact HO9.out), HB9.out, HQ9.out⟩
                case measure => simp [intOf]; omega
              · have hee : (v0 == d0) = false := by simp [he]
                go_wp2_with fail
                refine wp_region_quiet_below (by kernel_rfl) (by kernel_rfl) ?_
                repeat (go_big_quiet_step (first | fail))
                refine wpQuiet_nil ?_
                intro _ hw'
                obtain ⟨⟨dq, osq⟩, hw''⟩ := hw'
                subst hw''
                have HBX := Lib.hid (HBW.out.trans ((below_regrown wr dq osq).mono HBW.out.size))
                have hbX := Lib.hid (HBQ.out.trans ((below_regrown wr dq osq).mono HBQ.out.size))
                have hoX := Lib.hid (own_below HOW.out (below_regrown wr dq osq))
                clear U0 U1 U2 UD
                go_wp2_with fail
                go_roundw
                case rel => exact ⟨j + 1, g, cg, l, by omega, by go_num, by rw [HPK.out, if_neg he, List.append_nil]; exact HLN.out, rfl, hg, by rw [HPK.out, if_neg he, List.append_nil]; exact hoX.out, HBX.out, hbX.out⟩
                case measure => simp [intOf]; omega
            · obtain rfl : j = q := by omega
              have hone : pickR vs d0 j = [⟨d0, d1, d2⟩] := by rw [← HALL.out, hlen]
              have hl := HLN.out
              rw [hone] at hl HOW
              clear HLN
              rw [← HTK.out] at HOW
              obtain rfl : l = k + 1 := by rw [hl]; rfl
              clear hone
              go_wp2_with fail
              go_roundw
              case rel => exact ⟨k + 1, g, cg, by omega, by go_num, rfl, hg, HOW.out, HBW.out, HBQ.out⟩
              case measure => simp [intOf]; omega
        · obtain rfl : k = q := by omega
          have hfull : P.take k = P := List.take_of_length_le (by omega)
          rw [hfull] at HOW
          obtain ⟨z4, x4, hA4⟩ := extA_ex P
          obtain ⟨hz4, rfl⟩ := hA4.1 HGP.out
          obtain rfl : z4 = z := hz4.trans HZP.out.symm
          have CE := Lib.hid (extI_any cg (own_Cargos HOW.out) (by omega) (own_capR HOW.out) z4 true hA4)
          have hzz : (z4 != z4) = false := by simp
          have hkk : ((k : Int) != (k : Int)) = false := by simp
          clear hA4 hz4 hfull HOW HBQ
          go_wp2_with fail
          refine CE.out.mono ?_
          rintro e w20 ⟨rfl, hb⟩
          have HB20 := Lib.hid (HBW.out.trans (hb.mono HBW.out.size))
          clear hb CE HBW HV12 HI12 HB12 HGC HPP HZP HGP HLP
          have D2 := Lib.hid (drawSafe_any c (HCD.out.on HB20.out))
          go_wp2_with fail
          refine D2.out.mono ?_
          rintro e w30 ⟨g8, q8, c8, us, g9, m9, c9, ps, rfl, hq8, hqc8, hl9, hm9, hU, hP, hb⟩
          have HB30 := Lib.hid (HB20.out.trans (hb.mono HB20.out.size))
          obtain ⟨R8, x8, hS8⟩ := safeA_ex us ps
          obtain ⟨N8, y8, hU8⟩ := unsA_ex us ps
          have HS8 := Lib.hid hS8
          have HU8 := Lib.hid hU8
          obtain ⟨rfl, hR8⟩ := safe_uns hU8 hS8
          have HR8 := Lib.hid hR8
          have hN8 := Lib.hid hU8.len
          have C1 := Lib.hid (safeI_any c8 c9 hU (by omega) hqc8 hl9 (by omega) (Nat.le_refl _) hP R8 x8 hS8)
          have HU30 := Lib.hid hU
          have HP30 := Lib.hid hP
          clear D2 hU hP hb HB20 hS8 hU8 hR8
          go_wp2_with fail
          refine C1.out.mono ?_
          rintro e w31 ⟨rfl, hb⟩
          have HB31 := Lib.hid (HB30.out.trans (hb.mono HB30.out.size))
          have HU31 := Lib.hid (HU30.out.below hb HU30.out.low)
          have HP31 := Lib.hid (has_on HP30.out hb)
          have C2 := Lib.hid (unsI_any c8 c9 HU31.out (by omega) hqc8 hl9 (by omega) (Nat.le_refl _) HP31.out N8 x8 HU8.out)
          clear hb C1 HB30 HU30 HP30
          go_wp2_with fail
          refine C2.out.mono ?_
          rintro e w32 ⟨ga, ca, M1, rfl, hM1, ho1, hE1, hb⟩
          have HB32 := Lib.hid (HB31.out.trans (hb.mono HB31.out.size))
          have HU32 := Lib.hid (HU31.out.below hb HU31.out.low)
          have HP32 := Lib.hid (has_on HP31.out hb)
          have HO1 := Lib.hid ho1
          have HE1 := Lib.hid hE1
          have HM1 := Lib.hid hM1
          have C3 := Lib.hid (unsS_any c8 c9 HU32.out (by omega) hl9 (by omega) (Nat.le_refl _) HP32.out N8 x8 HU8.out)
          clear hb C2 HB31 HU31 HP31 ho1 hE1 hM1
          go_wp2_with fail
          refine C3.out.mono ?_
          rintro e w33 ⟨gb, cb, M2, rfl, hM2, ho2, hE2, hb⟩
          have HB33 := Lib.hid (HB32.out.trans (hb.mono HB32.out.size))
          have HU33 := Lib.hid (HU32.out.below hb HU32.out.low)
          have HP33 := Lib.hid (has_on HP32.out hb)
          have hl1 : M1.length = N8.length := by rw [← HM1.out, numsPr_len]
          have hl2 : M2.length = N8.length := by rw [← hM2, numsPr_len]
          rw [hl2] at ho2
          have HL1 := Lib.hid hl1
          have HO3 := Lib.hid (own_below HO1.out hb)
          rw [hl1] at HO3
          have CT := Lib.hid (rTable_same (HM1.out.trans hM2.symm) hl1 (by have := hN8.out; omega) HO3.out (HE1.out.all hb) ho2 hE2)
          have CS := Lib.hid (fun W (hq : Below w33.heap.size w33 W) => safeS_any c8 c9 (HU33.out.below hq HU33.out.low) (by omega) hl9 (by omega) (Nat.le_refl _) (has_on HP33.out hq) R8 x8 HS8.out)
          rw [hl1, hl2]
          have hxx8 : (x8 != x8) = false := by simp
          have hxe8 : (x8 == x8) = true := by simp
          have hre8 : (R8 == R8) = true := by simp
          have HRR : Hid (x8 = true → R8 = decide (N8.length = 0)) := Lib.hid (fun h => by rw [HR8.out, h]; simp)
          generalize N8.length = l8 at CT HRR ⊢
          clear hb C3 HB32 HU32 HP32 ho2 hE2 hM2 HO1 HE1 HM1 hl1 hl2 HL1 HO3 hN8 HR8 HS8 HU8
          go_wp2_with fail
          refine CT.out.mono ?_
          rintro e w34 ⟨rfl, hb⟩
          have HB34 := Lib.hid (HB33.out.trans (hb.mono HB33.out.size))
          have C5 := Lib.hid (CS.out _ hb)
          clear hb CT CS HB33 HU33 HP33
          go_wp2_with fail
          refine C5.out.mono ?_
          rintro e w35 ⟨rfl, hb⟩
          have HB35 := Lib.hid (HB34.out.trans (hb.mono HB34.out.size))
          clear hb C5 HB34
          cases x8 with
          | false =>
            go_wp2_with fail
            go_ret
            exact ⟨rfl, HB35.out⟩
          | true =>
            obtain rfl := HRR.out rfl
            clear HRR
            by_cases h80 : l8 = 0
            · subst h80
              go_wp2_with fail
              go_ret
              exact ⟨rfl, HB35.out⟩
            · have h81 : ((l8 : Int) == 0) = false := by simp; omega
              have h82 : decide (l8 = 0) = false := by simp; exact h80
              rw [h82]
              go_wp2_with fail
              go_ret
              exact ⟨rfl, HB35.out⟩
theorem own : ownKnob Try.prog.godebug = none := by kernel_rfl
theorem laidOut : laidOutB Try.prog = true := by kernel_rfl

set_option maxRecDepth 100000 in
theorem lifted (os : Os) (started : os.Started) (H : Type) (enc : TypeId × Value → H) :
    ReturnsInHanded {} Try.checked os 4 .any (Rows.fnRowsSpec.pre6 enc Try.prog Try.f4 Rows.fnRowsRow.domain false) (Rows.fnRowsSpec.post enc Try.prog Try.f4 false true false false) := by
  refine returnsInHanded_of_change (C := Try.checked) own started (by kernel_rfl) Try.func4
    (ChangeSpec.witness6 (enc := enc) (C := Try.checked) false ⟨#[], #[.slice none 0 0], []⟩ 8 (by kernel_rfl) (by kernel_rfl) (by kernel_rfl) (by kernel_rfl)) ?_
  intro W base args ds gs before hval0 hW hcnd _
  have hval : ∀ (j : Nat) t v, Try.f4.params[j]? = some t → args[j]? = some v → Value.okWide Try.prog W .any base t v := hval0
  have hW' := hW
  obtain ⟨p, q, hA0, hV, rfl, hfz, hnd⟩ := hW
  have hA : DataW.TrodAll enc Try.prog W 0 (fun _ => true) true Try.f4.params.toList args.toList ds p := hA0
  rw [Try.params4] at hA hval
  obtain ⟨v0, vs0, d0, ds0, p0, q0, hargs, rfl, rfl, h0, r0⟩ := trodAll_cons hA
  obtain ⟨rfl, rfl, rfl⟩ := trodAll_nil r0
  obtain rfl : args = #[v0] := by cases args; simp_all
  obtain ⟨rfl, rfl⟩ := trodVars_none hV
  obtain ⟨a0, len0, cap0, rfl⟩ := okWide_slice Try.underlying22 (hval 0 22 v0 rfl rfl)
  have k0 := h0
  have lt0 : ∀ x ∈ p0, x.block < W.heap.size := by obtain ⟨m, hm⟩ := k0; exact DataW.trod_lt m _ _ _ hm
  obtain ⟨z0, w0⟩ : ∃ zs, IsInts .u8 W a0 len0 zs := by
    obtain ⟨fuel, hf⟩ := h0
    rcases open_ints Try.underlying22 Try.underlying5 (by kernel_rfl) hf with ⟨hcs, _⟩ | ⟨x, l, c, zs, hcs, _, hl, hm, hz, _, hcell, hwz⟩
    · simp [Value.cells] at hcs
      obtain ⟨rfl, rfl, rfl⟩ := hcs
      exact ⟨[], isInts_nil _ W⟩
    · simp [Value.cells] at hcs
      obtain ⟨rfl, rfl, rfl⟩ := hcs
      exact ⟨_, isInts_some hl hm (by simpa using hz) hcell hwz⟩
  clear hA0 hval0
  refine (walk a0 len0 cap0 z0 W w0).mono fun e W' ⟨he, bel⟩ => ?_
  subst he
  exact ⟨_, rfl, _, _, _, [], _, [], hW', trodAll_mk1 (shut_bool Try.underlying4 _), (trodAll_cons_mk (Below.trod laidOut (by kernel_rfl) (of_decide_eq_true (by kernel_rfl)) k0 bel lt0) trodAll_mk0), rfl, bel.frame _, fun h => by cases h⟩

theorem over : Rows.fnRowsRow.holds Try.pinned (OpenSpec.ofChange Rows.fnRowsSpec) :=
  OpenClaim.holds_of_wide 4 Try.f4 rfl rfl rfl rfl rfl rfl rfl ⟨rfl, rfl, rfl, rfl, rfl⟩ rfl rfl rfl rfl rfl (by kernel_rfl) Try.func4 (by kernel_rfl)
    (of_decide_eq_true (by kernel_rfl)) (by unfold Func.isWrapper; first | (rw [if_pos (by decide +kernel)]; kernel_rfl) | (rw [if_neg (by decide +kernel)]; exact ⟨rfl, rfl⟩))
    (fun os started H enc _ => lifted os started H enc)

/-- The statement. -/
theorem proved : Rows.FnRowsSaid := over
end Go.Proofs.Ytgnopkemcgbedab.fnRows
