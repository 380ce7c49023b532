/- FnSensors holds: the model's and the program's votes, agreeing sensors, medians and suspects are the same, and a vote lies between the readings that agree; at every list of bytes. -/
import Derived.Test.YteeljlpbijmhlaaSeI
import Derived.Test.YteeljlpbijmhlaaSeBig
import Derived.Test.YteeljlpbijmhlaaInv
import Derived.Test.YteeljlpbijmhlaaSt0
import Derived.OpenShut
import Derived.ShutString
import Derived.ChangeOld
import Derived.WalkLawsBesides
import Derived.Lib.SmallJoins
import Derived.Deep.RegionHeld3
namespace Go.Proofs.Yteeljlpbijmhlaa.fnSensors
open Go.ChangeShapes Go.WideShapes Go.ChangeAt Go.RowKit
open Go.ChangeMaps (open_string shut_string)
set_option linter.unusedVariables false
set_option linter.unusedSimpArgs false

set_option maxRecDepth 100000 in
set_option maxHeartbeats 16000000 in
theorem walk (A : Option Addr) (n c : Nat) (zs : List Int) (w : World) (hI : IsInts .u8 w A n zs) :
    Calls Try.prog 13 #[.slice A n c] w fun e w' => e = .returned (.bool true) ∧ Below w.heap.size w w' := by
  have CB := Lib.hid (fun W => rBig_any A n c W hI.2.1)
  by_cases hbig : (65536 : Int) < (n : Int)
  · rw [decide_eq_true hbig] at CB
    clear hI
    go_enter Try.func13, Try.ntmps13
    go_wp2_with fail
    refine (CB.out _).mono ?_
    rintro e w1 ⟨rfl, rfl⟩
    go_wp2_with fail
    go_ret
    exact ⟨rfl, Below.refl _ _⟩
  · rw [decide_eq_false hbig] at CB
    have HC := Lib.hid (Code_.of hI (by omega))
    have D1 := Lib.hid (drawVot_any c HC.out)
    clear hI hbig
    go_enter Try.func13, Try.ntmps13
    go_wp2_with fail
    refine (CB.out _).mono ?_
    rintro e w1 ⟨rfl, rfl⟩
    clear CB
    go_wp2_with fail
    refine D1.out.mono ?_
    rintro e w1 ⟨g1, c1, q1, L1, z1, rfl, hq1, hqc1, hL1, hb⟩
    have HB1 := Lib.hid hb
    have HL1 := Lib.hid hL1
    clear hb D1 hL1
    obtain ⟨m, x, hV⟩ := votA_ex L1 z1
    obtain ⟨L, y, hA, hl3⟩ := agrA_ex L1 z1
    obtain ⟨Ln, hLn⟩ : ∃ k, L.length = k := ⟨_, rfl⟩
    rw [hLn] at hl3
    have HV := Lib.hid hV
    have HA := Lib.hid hA
    have HLn := Lib.hid hLn
    have HX := Lib.hid (agr_vot hV hA)
    have C1 := Lib.hid (votIm_any (some ⟨g1, 0, none⟩) q1 c1 _ L1 z1 m x hV w1 HL1.out.len (by omega) HL1.out.low HL1.out.has)
    have hmm : (m != m) = false := by simp
    have hxx : (x != x) = false := by simp
    have hyy : (y != y) = false := by simp
    clear hV hA hLn
    go_wp2_with fail
    refine C1.out.mono ?_
    rintro e w2 ⟨rfl, hb⟩
    have HB2 := Lib.hid (HB1.out.trans (hb.mono HB1.out.size))
    have HL2 := Lib.hid (HL1.out.below hb HL1.out.low)
    clear hb HB1 HL1 C1
    have C2 := Lib.hid (votSp_any (some ⟨g1, 0, none⟩) q1 c1 _ L1 z1 m x HV.out w2 HL2.out.len (by omega) HL2.out.low HL2.out.has)
    go_wp2_with fail
    refine C2.out.mono ?_
    rintro e w3 ⟨rfl, hb⟩
    have HB3 := Lib.hid (HB2.out.trans (hb.mono HB2.out.size))
    have HL3 := Lib.hid (HL2.out.below hb HL2.out.low)
    clear hb HB2 HL2 C2
    have C3 := Lib.hid (agrIm_own (some ⟨g1, 0, none⟩) q1 c1 _ L1 z1 L y HA.out Ln HLn.out w3 HL3.out.len (by omega) HL3.out.low HL3.out.has)
    go_wp2_with fail
    refine C3.out.mono ?_
    rintro e w4 ⟨ga, ca, rfl, ho, hb⟩
    have HB4 := Lib.hid (HB3.out.trans (hb.mono HB3.out.size))
    have HL4 := Lib.hid (HL3.out.below hb HL3.out.low)
    have HG4 : Hid (IsI6 w4 w4.heap.size (some ⟨ga, 0, none⟩) Ln L) := Lib.hid ⟨HLn.out, ownS_has ho, Nat.le_refl _⟩
    clear hb ho HB3 HL3 C3
    have C4 := Lib.hid (agrSp_own (some ⟨g1, 0, none⟩) q1 c1 _ L1 z1 L y HA.out Ln HLn.out w4 HL4.out.len (by omega) HL4.out.low HL4.out.has)
    go_wp2_with fail
    refine C4.out.mono ?_
    rintro e w5 ⟨gw, cw, rfl, ho, hb⟩
    have HB5 := Lib.hid (HB4.out.trans (hb.mono HB4.out.size))
    have HL5 := Lib.hid (HL4.out.below hb HL4.out.low)
    have HG5 := Lib.hid (HG4.out.below hb HG4.out.low)
    have CR := Lib.hid (rInts_same (some ⟨ga, 0, none⟩) (some ⟨gw, 0, none⟩) Ln ca cw _ _ L w5 HLn.out (by unfold maxLen; omega) HG5.out.has (ownS_has ho))
    clear hb ho HB4 HL4 HG4 C4 HA
    go_wp2_with fail
    refine CR.out.mono ?_
    rintro e w6 ⟨rfl, hd⟩
    have HB6 := Lib.hid (HB5.out.trans ((hd.below w5.heap.size).mono HB5.out.size))
    have HL6 := Lib.hid (HL5.out.below (hd.below w5.heap.size) HL5.out.low)
    have HG6 := Lib.hid (HG5.out.below (hd.below w5.heap.size) HG5.out.low)
    have hcase := HX.out
    rw [HLn.out] at hcase
    clear hd HB5 HL5 HG5 CR HX
    rcases hcase with ⟨rfl, rfl⟩ | ⟨rfl, rfl, hl2⟩ | ⟨rfl, rfl, hl2, hLa, htri⟩
    · clear HL6 HG6 HV HLn
      -- the drawn triple whose median is asked
      have D2 := Lib.hid (drawMed_any c (HC.out.on HB6.out))
      go_wp2_with fail
      refine D2.out.mono ?_
      rintro e w7 ⟨g2, c2, q2, L2, rfl, hq2, hqc2, hL2, hb⟩
      have HB7 := Lib.hid (HB6.out.trans (hb.mono HB6.out.size))
      have HL := Lib.hid hL2
      clear hb D2 HB6 hL2
      obtain ⟨m2, x2, hM⟩ := medA_ex L2
      have HM := Lib.hid hM
      have C1 := Lib.hid (medIm_any (some ⟨g2, 0, none⟩) q2 c2 _ L2 m2 x2 hM w7 HL.out.len (by omega) HL.out.low HL.out.has)
      have hmm2 : (m2 != m2) = false := by simp
      have hxx2 : (x2 != x2) = false := by simp
      clear hM
      go_wp2_with fail
      refine C1.out.mono ?_
      rintro e w8 ⟨rfl, hb⟩
      have HB8 := Lib.hid (HB7.out.trans (hb.mono HB7.out.size))
      have HL8 := Lib.hid (HL.out.below hb HL.out.low)
      clear hb HB7 HL C1
      have C2 := Lib.hid (medSp_any (some ⟨g2, 0, none⟩) q2 c2 _ L2 m2 x2 HM.out w8 HL8.out.len (by omega) HL8.out.low HL8.out.has)
      go_wp2_with fail
      refine C2.out.mono ?_
      rintro e w9 ⟨rfl, hb⟩
      have HB9 := Lib.hid (HB8.out.trans (hb.mono HB8.out.size))
      have HL9 := Lib.hid (HL8.out.below hb HL8.out.low)
      clear hb HB8 HL8 C2
      cases x2 with
      | false =>
        clear HM HL9
        -- the drawn triples among which one may be suspect
        have D3 := Lib.hid (drawSus_any c (HC.out.on HB9.out))
        clear HC
        go_wp2_with fail
        refine D3.out.mono ?_
        rintro e w20 ⟨g3, c3, q3, vs, z3, rfl, hq3, hn4, hvs, hb⟩
        have HB20 := Lib.hid (HB9.out.trans (hb.mono HB9.out.size))
        have HL := Lib.hid hvs
        clear hb D3 HB9 hvs
        obtain ⟨m3, x3, hS⟩ := susA_ex (tss vs) z3
        have hn9 : ∀ k, k < q3 → (vs.getD k noSl).n ≤ 1048576 := fun k hk => by have := hn4 k hk; omega
        have HS := Lib.hid hS
        have HN := Lib.hid hn9
        have C1 := Lib.hid (susI_any c3 HL.out (by omega) hn9 z3 m3 x3 hS)
        have hmm3 : (m3 == m3) = true := by simp
        have hxx3 : (x3 == x3) = true := by simp
        clear hS hn9 hn4
        go_wp2_with fail
        refine C1.out.mono ?_
        rintro e w21 ⟨rfl, hb⟩
        have HB21 := Lib.hid (HB20.out.trans (hb.mono HB20.out.size))
        have HL21 := Lib.hid (HL.out.below hb HL.out.low)
        clear hb HB20 HL C1
        have C2 := Lib.hid (susS_any c3 HL21.out (by omega) HN.out z3 m3 x3 HS.out)
        go_wp2_with fail
        refine C2.out.mono ?_
        rintro e w22 ⟨rfl, hb⟩
        have HB22 := Lib.hid (HB21.out.trans (hb.mono HB21.out.size))
        clear hb HB21 HL21 C2 HS HN
        go_wp2_with fail
        go_ret
        exact ⟨rfl, HB22.out⟩
      | true =>
        obtain ⟨ht, hmem, hA1, hA2⟩ := med_mix HM.out
        obtain rfl : q2 = 3 := by rw [← HL9.out.len]; exact ht.1
        obtain ⟨za, zb, zc, rfl, -⟩ := triS_three ht
        have HMem := Lib.hid hmem
        have HA1 : Hid (MedA [zc, za, zb] m2 true) := Lib.hid hA1
        have HA2 : Hid (MedA [zb, za, zc] m2 true) := Lib.hid hA2
        clear hmem hA1 hA2 ht HM
        go_wp2_with fail
        refine region_inv (by kernel_rfl) (by kernel_rfl) (fun Fl9 ac W => ∃ (x154 x155 x156 x157 x158 x159 x160 x161 x162 x163 x164 x153 x165 x166 x22 x23 : Value), ac = { tmps := #[Value.slice A n c, undef, Value.bool false, Value.slice (some ⟨g1, 0, none⟩) q1 c1, Value.int IntKind.i64 z1, Value.int IntKind.i64 m, Value.bool false, Value.int IntKind.i64 m, Value.bool false, Value.slice (some ⟨ga, 0, none⟩) Ln ca, Value.bool false, Value.slice (some ⟨gw, 0, none⟩) Ln cw, Value.bool false, undef, undef, undef, undef, Value.slice (some ⟨g2, 0, none⟩) 3 c2, Value.int IntKind.i64 m2, Value.bool true, Value.int IntKind.i64 m2, Value.bool true, x22, x23, undef, undef, undef, undef, undef, undef, undef, undef, Value.slice A n c, Value.bool false, Value.tuple #[Value.slice (some ⟨g1, 0, none⟩) q1 c1, Value.int IntKind.i64 z1], Value.slice A n c, Value.tuple #[Value.slice (some ⟨g1, 0, none⟩) q1 c1, Value.int IntKind.i64 z1], Value.slice (some ⟨g1, 0, none⟩) q1 c1, Value.int IntKind.i64 z1, Value.tuple #[Value.int IntKind.i64 m, Value.bool false], Value.slice (some ⟨g1, 0, none⟩) q1 c1, Value.int IntKind.i64 z1, Value.tuple #[Value.int IntKind.i64 m, Value.bool false], Value.int IntKind.i64 m, Value.bool false, Value.tuple #[Value.int IntKind.i64 m, Value.bool false], Value.slice (some ⟨g1, 0, none⟩) q1 c1, Value.int IntKind.i64 z1, Value.tuple #[Value.int IntKind.i64 m, Value.bool false], Value.int IntKind.i64 m, Value.bool false, Value.int IntKind.i64 m, Value.int IntKind.i64 m, Value.bool false, Value.bool false, Value.bool false, Value.bool false, Value.bool false, Value.bool false, Value.tuple #[Value.slice (some ⟨ga, 0, none⟩) Ln ca, Value.bool false], Value.slice (some ⟨g1, 0, none⟩) q1 c1, Value.int IntKind.i64 z1, Value.tuple #[Value.slice (some ⟨ga, 0, none⟩) Ln ca, Value.bool false], Value.slice (some ⟨ga, 0, none⟩) Ln ca, Value.bool false, Value.tuple #[Value.slice (some ⟨gw, 0, none⟩) Ln cw, Value.bool false], Value.slice (some ⟨g1, 0, none⟩) q1 c1, Value.int IntKind.i64 z1, Value.tuple #[Value.slice (some ⟨gw, 0, none⟩) Ln cw, Value.bool false], Value.slice (some ⟨gw, 0, none⟩) Ln cw, Value.bool false, Value.bool false, Value.bool false, Value.bool false, Value.bool false, Value.slice (some ⟨ga, 0, none⟩) Ln ca, Value.slice (some ⟨gw, 0, none⟩) Ln cw, Value.bool true, Value.bool false, Value.bool false, Value.bool false, Value.bool false, Value.bool false, undef, undef, undef, undef, undef, Value.bool false, Value.bool false, Value.bool false, undef, undef, undef, undef, undef, undef, undef, undef, undef, undef, undef, undef, undef, undef, undef, undef, undef, undef, undef, undef, undef, undef, undef, undef, undef, undef, undef, undef, undef, undef, undef, undef, undef, undef, undef, undef, undef, undef, undef, undef, undef, Value.slice A n c, Value.slice (some ⟨g2, 0, none⟩) 3 c2, Value.tuple #[Value.int IntKind.i64 m2, Value.bool true], Value.slice (some ⟨g2, 0, none⟩) 3 c2, Value.tuple #[Value.int IntKind.i64 m2, Value.bool true], Value.int IntKind.i64 m2, Value.bool true, Value.tuple #[Value.int IntKind.i64 m2, Value.bool true], Value.slice (some ⟨g2, 0, none⟩) 3 c2, Value.tuple #[Value.int IntKind.i64 m2, Value.bool true], Value.int IntKind.i64 m2, Value.bool true, Value.int IntKind.i64 m2, Value.int IntKind.i64 m2, Value.bool false, Value.bool false, Value.bool true, Value.bool true, Value.bool false, Value.bool false, Value.bool true, x153, x154, x155, x156, x157, x158, x159, x160, x161, x162, x163, x164, x165, x166, undef, undef, undef, undef, undef, undef, undef, undef, undef, undef, undef, undef, undef, undef, undef, undef, undef, undef, undef, undef, undef, undef, undef, undef, undef, undef, undef, undef, undef, undef, undef, undef, undef, undef, undef, undef, undef, undef, undef, undef, undef, undef, undef, undef, undef, undef, undef, undef, undef, undef, undef, undef, undef, undef, undef, undef, undef, undef, undef, undef, undef], defers := [] } ∧ Below w9.heap.size w9 W ∧
              (Fl9 0 = true → x154 = .slice (some ⟨g2, 0, none⟩) 3 c2) ∧
              (Fl9 1 = true → x155 = .pointer (some ⟨g2, 2, none⟩)) ∧
              (Fl9 2 = true → x156 = .int .i64 zc) ∧
              (Fl9 3 = true → x157 = .slice (some ⟨g2, 0, none⟩) 3 c2) ∧
              (Fl9 4 = true → x158 = .pointer (some ⟨g2, 0, none⟩)) ∧
              (Fl9 5 = true → x159 = .int .i64 za) ∧
              (Fl9 6 = true → x160 = .slice (some ⟨g2, 0, none⟩) 3 c2) ∧
              (Fl9 7 = true → x161 = .pointer (some ⟨g2, 1, none⟩)) ∧
              (Fl9 8 = true → x162 = .int .i64 zb) ∧
              (Fl9 9 = true → ∃ g B, x163 = .slice (some ⟨g, 0, none⟩) 3 3 ∧ IsI6 W B (some ⟨g, 0, none⟩) 3 [zc, za, zb]) ∧
              (Fl9 10 = true → x164 = .tuple #[.int .i64 m2, .bool true]) ∧
              (Fl9 11 = true → x153 = .tuple #[.int .i64 m2, .bool true]) ∧
              (Fl9 12 = true → x165 = .int .i64 m2) ∧
              (Fl9 13 = true → x166 = .bool true) ∧
              (Fl9 14 = true → x22 = .int .i64 m2) ∧
              (Fl9 15 = true → x23 = .bool true)) ?_ ?_ ?_
        · exact ⟨_, _, _, _, _, _, _, _, _, _, _, _, _, _, _, _, rfl, (Drawn.one w9 1).below _, (fun q0 => nomatch q0), (fun q0 => nomatch q0), (fun q0 => nomatch q0), (fun q0 => nomatch q0), (fun q0 => nomatch q0), (fun q0 => nomatch q0), (fun q0 => nomatch q0), (fun q0 => nomatch q0), (fun q0 => nomatch q0), (fun q0 => nomatch q0), (fun q0 => nomatch q0), (fun q0 => nomatch q0), (fun q0 => nomatch q0), (fun q0 => nomatch q0), (fun q0 => nomatch q0), (fun q0 => nomatch q0)⟩
        · intro Fl9 ac W i9 o9 hJ ho hL hdep K9 hK
          obtain ⟨x154, x155, x156, x157, x158, x159, x160, x161, x162, x163, x164, x153, x165, x166, x22, x23, rfl, hB, hh0, hh1, hh2, hh3, hh4, hh5, hh6, hh7, hh8, hh9, hh10, hh11, hh12, hh13, hh14, hh15⟩ := hJ
          have hi9 : i9 < 16 := by simpa using (Array.getElem?_eq_some_iff.1 ho).1
          have QW := three6 (HL9.out.below hB HL9.out.low)
          obtain ⟨C0, C1, C2⟩ := QW
          obtain rfl | rfl | rfl | rfl | rfl | rfl | rfl | rfl | rfl | rfl | rfl | rfl | rfl | rfl | rfl | rfl : i9 = 0 ∨ i9 = 1 ∨ i9 = 2 ∨ i9 = 3 ∨ i9 = 4 ∨ i9 = 5 ∨ i9 = 6 ∨ i9 = 7 ∨ i9 = 8 ∨ i9 = 9 ∨ i9 = 10 ∨ i9 = 11 ∨ i9 = 12 ∨ i9 = 13 ∨ i9 = 14 ∨ i9 = 15 := by omega
          · -- operation 0
            cases ho
            go_simp
            exact hK _ _ ⟨_, _, _, _, _, _, _, _, _, _, _, _, _, _, _, _, rfl, hB, fun _ => rfl, hh1, hh2, hh3, hh4, hh5, hh6, hh7, hh8, hh9, hh10, hh11, hh12, hh13, hh14, hh15⟩
          · -- operation 1
            cases ho
            obtain rfl := hh0 (hdep ⟨0, .data⟩ (by simp) rfl)
            go_simp
            exact hK _ _ ⟨_, _, _, _, _, _, _, _, _, _, _, _, _, _, _, _, rfl, hB, hh0, fun _ => rfl, hh2, hh3, hh4, hh5, hh6, hh7, hh8, hh9, hh10, hh11, hh12, hh13, hh14, hh15⟩
          · -- operation 2
            cases ho
            obtain rfl := hh1 (hdep ⟨1, .data⟩ (by simp) rfl)
            go_simp
            exact hK _ _ ⟨_, _, _, _, _, _, _, _, _, _, _, _, _, _, _, _, rfl, hB, hh0, hh1, fun _ => rfl, hh3, hh4, hh5, hh6, hh7, hh8, hh9, hh10, hh11, hh12, hh13, hh14, hh15⟩
          · -- operation 3
            cases ho
            go_simp
            exact hK _ _ ⟨_, _, _, _, _, _, _, _, _, _, _, _, _, _, _, _, rfl, hB, hh0, hh1, hh2, fun _ => rfl, hh4, hh5, hh6, hh7, hh8, hh9, hh10, hh11, hh12, hh13, hh14, hh15⟩
          · -- operation 4
            cases ho
            obtain rfl := hh3 (hdep ⟨3, .data⟩ (by simp) rfl)
            go_simp
            exact hK _ _ ⟨_, _, _, _, _, _, _, _, _, _, _, _, _, _, _, _, rfl, hB, hh0, hh1, hh2, hh3, fun _ => rfl, hh5, hh6, hh7, hh8, hh9, hh10, hh11, hh12, hh13, hh14, hh15⟩
          · -- operation 5
            cases ho
            obtain rfl := hh4 (hdep ⟨4, .data⟩ (by simp) rfl)
            go_simp
            exact hK _ _ ⟨_, _, _, _, _, _, _, _, _, _, _, _, _, _, _, _, rfl, hB, hh0, hh1, hh2, hh3, hh4, fun _ => rfl, hh6, hh7, hh8, hh9, hh10, hh11, hh12, hh13, hh14, hh15⟩
          · -- operation 6
            cases ho
            go_simp
            exact hK _ _ ⟨_, _, _, _, _, _, _, _, _, _, _, _, _, _, _, _, rfl, hB, hh0, hh1, hh2, hh3, hh4, hh5, fun _ => rfl, hh7, hh8, hh9, hh10, hh11, hh12, hh13, hh14, hh15⟩
          · -- operation 7
            cases ho
            obtain rfl := hh6 (hdep ⟨6, .data⟩ (by simp) rfl)
            go_simp
            exact hK _ _ ⟨_, _, _, _, _, _, _, _, _, _, _, _, _, _, _, _, rfl, hB, hh0, hh1, hh2, hh3, hh4, hh5, hh6, fun _ => rfl, hh8, hh9, hh10, hh11, hh12, hh13, hh14, hh15⟩
          · -- operation 8
            cases ho
            obtain rfl := hh7 (hdep ⟨7, .data⟩ (by simp) rfl)
            go_simp
            exact hK _ _ ⟨_, _, _, _, _, _, _, _, _, _, _, _, _, _, _, _, rfl, hB, hh0, hh1, hh2, hh3, hh4, hh5, hh6, hh7, fun _ => rfl, hh9, hh10, hh11, hh12, hh13, hh14, hh15⟩
          · -- operation 9
            cases ho
            obtain rfl := hh2 (hdep ⟨2, .data⟩ (by simp) rfl)
            obtain rfl := hh5 (hdep ⟨5, .data⟩ (by simp) rfl)
            obtain rfl := hh8 (hdep ⟨8, .data⟩ (by simp) rfl)
            go_simp
            exact hK _ _ ⟨_, _, _, _, _, _, _, _, _, _, _, _, _, _, _, _, rfl, hB.trans ((Below.alloc (Below.refl W.heap.size W) (Nat.le_refl _) _).mono hB.size), hh0, hh1, hh2, hh3, hh4, hh5, hh6, hh7, hh8, fun _ => ⟨_, _, rfl, isI_new W _ _ _⟩, hh10, hh11, hh12, hh13, hh14, hh15⟩
          · -- operation 10
            cases ho
            have hd9 := hdep ⟨9, .data⟩ (by simp) rfl
            obtain ⟨g9, B9, rfl, hI9⟩ := hh9 hd9
            go_simp
            refine (medIm_any (some ⟨g9, 0, none⟩) 3 3 B9 _ m2 true HA1.out W rfl (by omega) hI9.low hI9.has).mono ?_
            rintro e w9x ⟨rfl, hb9⟩
            exact hK _ _ ⟨_, _, _, _, _, _, _, _, _, _, _, _, _, _, _, _, rfl, hB.trans (hb9.mono hB.size), hh0, hh1, hh2, hh3, hh4, hh5, hh6, hh7, hh8, fun q0 => (fun ⟨g, B, e, h⟩ => ⟨g, B, e, h.below hb9 h.low⟩) (hh9 q0), fun _ => rfl, hh11, hh12, hh13, hh14, hh15⟩
          · -- operation 11
            cases ho
            have hd10 := hdep ⟨10, .data⟩ (by simp) rfl
            obtain rfl := hh10 hd10
            go_simp
            exact hK _ _ ⟨_, _, _, _, _, _, _, _, _, _, _, _, _, _, _, _, rfl, hB, hh0, hh1, hh2, hh3, hh4, hh5, hh6, hh7, hh8, hh9, hh10, fun _ => rfl, hh12, hh13, hh14, hh15⟩
          · -- operation 12
            cases ho
            obtain rfl := hh11 (hdep ⟨11, .data⟩ (by simp) rfl)
            go_simp
            exact hK _ _ ⟨_, _, _, _, _, _, _, _, _, _, _, _, _, _, _, _, rfl, hB, hh0, hh1, hh2, hh3, hh4, hh5, hh6, hh7, hh8, hh9, hh10, hh11, fun _ => rfl, hh13, hh14, hh15⟩
          · -- operation 13
            cases ho
            obtain rfl := hh11 (hdep ⟨11, .data⟩ (by simp) rfl)
            go_simp
            exact hK _ _ ⟨_, _, _, _, _, _, _, _, _, _, _, _, _, _, _, _, rfl, hB, hh0, hh1, hh2, hh3, hh4, hh5, hh6, hh7, hh8, hh9, hh10, hh11, hh12, fun _ => rfl, hh14, hh15⟩
          · -- operation 14
            cases ho
            obtain rfl := hh12 (hdep ⟨12, .data⟩ (by simp) rfl)
            go_simp
            exact hK _ _ ⟨_, _, _, _, _, _, _, _, _, _, _, _, _, _, _, _, rfl, hB, hh0, hh1, hh2, hh3, hh4, hh5, hh6, hh7, hh8, hh9, hh10, hh11, hh12, hh13, fun _ => rfl, hh15⟩
          · -- operation 15
            cases ho
            obtain rfl := hh13 (hdep ⟨13, .data⟩ (by simp) rfl)
            go_simp
            exact hK _ _ ⟨_, _, _, _, _, _, _, _, _, _, _, _, _, _, _, _, rfl, hB, hh0, hh1, hh2, hh3, hh4, hh5, hh6, hh7, hh8, hh9, hh10, hh11, hh12, hh13, hh14, fun _ => rfl⟩
        intro Fl9 ac W hJ hall
        obtain ⟨x154, x155, x156, x157, x158, x159, x160, x161, x162, x163, x164, x153, x165, x166, x22, x23, rfl, hB, hh0, hh1, hh2, hh3, hh4, hh5, hh6, hh7, hh8, hh9, hh10, hh11, hh12, hh13, hh14, hh15⟩ := hJ
        obtain rfl := hh0 (hall 0 (by decide))
        obtain rfl := hh1 (hall 1 (by decide))
        obtain rfl := hh2 (hall 2 (by decide))
        obtain rfl := hh3 (hall 3 (by decide))
        obtain rfl := hh4 (hall 4 (by decide))
        obtain rfl := hh5 (hall 5 (by decide))
        obtain rfl := hh6 (hall 6 (by decide))
        obtain rfl := hh7 (hall 7 (by decide))
        obtain rfl := hh8 (hall 8 (by decide))
        obtain rfl := hh11 (hall 11 (by decide))
        obtain rfl := hh12 (hall 12 (by decide))
        obtain rfl := hh13 (hall 13 (by decide))
        obtain rfl := hh14 (hall 14 (by decide))
        obtain rfl := hh15 (hall 15 (by decide))
        obtain ⟨gz153, Bz153, rfl, -⟩ := hh9 (hall 9 (by decide))
        obtain rfl := hh10 (hall 10 (by decide))
        clear hall
        rename World => W10
        have HB10 := Lib.hid (HB9.out.trans (hB.mono HB9.out.size))
        have HL10 := Lib.hid (HL9.out.below hB HL9.out.low)
        clear hB HB9 HL9 HA1
        go_wp2_with fail
        refine region_inv (by kernel_rfl) (by kernel_rfl) (fun Fl9 ac W => ∃ (x168 x169 x170 x171 x172 x173 x174 x175 x176 x177 x178 x167 x179 x180 x24 x25 : Value), ac = { tmps := #[Value.slice A n c, undef, Value.bool false, Value.slice (some ⟨g1, 0, none⟩) q1 c1, Value.int IntKind.i64 z1, Value.int IntKind.i64 m, Value.bool false, Value.int IntKind.i64 m, Value.bool false, Value.slice (some ⟨ga, 0, none⟩) Ln ca, Value.bool false, Value.slice (some ⟨gw, 0, none⟩) Ln cw, Value.bool false, undef, undef, undef, undef, Value.slice (some ⟨g2, 0, none⟩) 3 c2, Value.int IntKind.i64 m2, Value.bool true, Value.int IntKind.i64 m2, Value.bool true, Value.int IntKind.i64 m2, Value.bool true, x24, x25, undef, undef, undef, undef, undef, undef, Value.slice A n c, Value.bool false, Value.tuple #[Value.slice (some ⟨g1, 0, none⟩) q1 c1, Value.int IntKind.i64 z1], Value.slice A n c, Value.tuple #[Value.slice (some ⟨g1, 0, none⟩) q1 c1, Value.int IntKind.i64 z1], Value.slice (some ⟨g1, 0, none⟩) q1 c1, Value.int IntKind.i64 z1, Value.tuple #[Value.int IntKind.i64 m, Value.bool false], Value.slice (some ⟨g1, 0, none⟩) q1 c1, Value.int IntKind.i64 z1, Value.tuple #[Value.int IntKind.i64 m, Value.bool false], Value.int IntKind.i64 m, Value.bool false, Value.tuple #[Value.int IntKind.i64 m, Value.bool false], Value.slice (some ⟨g1, 0, none⟩) q1 c1, Value.int IntKind.i64 z1, Value.tuple #[Value.int IntKind.i64 m, Value.bool false], Value.int IntKind.i64 m, Value.bool false, Value.int IntKind.i64 m, Value.int IntKind.i64 m, Value.bool false, Value.bool false, Value.bool false, Value.bool false, Value.bool false, Value.bool false, Value.tuple #[Value.slice (some ⟨ga, 0, none⟩) Ln ca, Value.bool false], Value.slice (some ⟨g1, 0, none⟩) q1 c1, Value.int IntKind.i64 z1, Value.tuple #[Value.slice (some ⟨ga, 0, none⟩) Ln ca, Value.bool false], Value.slice (some ⟨ga, 0, none⟩) Ln ca, Value.bool false, Value.tuple #[Value.slice (some ⟨gw, 0, none⟩) Ln cw, Value.bool false], Value.slice (some ⟨g1, 0, none⟩) q1 c1, Value.int IntKind.i64 z1, Value.tuple #[Value.slice (some ⟨gw, 0, none⟩) Ln cw, Value.bool false], Value.slice (some ⟨gw, 0, none⟩) Ln cw, Value.bool false, Value.bool false, Value.bool false, Value.bool false, Value.bool false, Value.slice (some ⟨ga, 0, none⟩) Ln ca, Value.slice (some ⟨gw, 0, none⟩) Ln cw, Value.bool true, Value.bool false, Value.bool false, Value.bool false, Value.bool false, Value.bool false, undef, undef, undef, undef, undef, Value.bool false, Value.bool false, Value.bool false, undef, undef, undef, undef, undef, undef, undef, undef, undef, undef, undef, undef, undef, undef, undef, undef, undef, undef, undef, undef, undef, undef, undef, undef, undef, undef, undef, undef, undef, undef, undef, undef, undef, undef, undef, undef, undef, undef, undef, undef, undef, Value.slice A n c, Value.slice (some ⟨g2, 0, none⟩) 3 c2, Value.tuple #[Value.int IntKind.i64 m2, Value.bool true], Value.slice (some ⟨g2, 0, none⟩) 3 c2, Value.tuple #[Value.int IntKind.i64 m2, Value.bool true], Value.int IntKind.i64 m2, Value.bool true, Value.tuple #[Value.int IntKind.i64 m2, Value.bool true], Value.slice (some ⟨g2, 0, none⟩) 3 c2, Value.tuple #[Value.int IntKind.i64 m2, Value.bool true], Value.int IntKind.i64 m2, Value.bool true, Value.int IntKind.i64 m2, Value.int IntKind.i64 m2, Value.bool false, Value.bool false, Value.bool true, Value.bool true, Value.bool false, Value.bool false, Value.bool true, Value.tuple #[Value.int IntKind.i64 m2, Value.bool true], Value.slice (some ⟨g2, 0, none⟩) 3 c2, Value.pointer (some ⟨g2, 2, none⟩), Value.int IntKind.i64 zc, Value.slice (some ⟨g2, 0, none⟩) 3 c2, Value.pointer (some ⟨g2, 0, none⟩), Value.int IntKind.i64 za, Value.slice (some ⟨g2, 0, none⟩) 3 c2, Value.pointer (some ⟨g2, 1, none⟩), Value.int IntKind.i64 zb, Value.slice (some ⟨gz153, 0, none⟩) 3 3, Value.tuple #[Value.int IntKind.i64 m2, Value.bool true], Value.int IntKind.i64 m2, Value.bool true, x167, x168, x169, x170, x171, x172, x173, x174, x175, x176, x177, x178, x179, x180, undef, undef, undef, undef, undef, undef, undef, undef, undef, undef, undef, undef, undef, undef, undef, undef, undef, undef, undef, undef, undef, undef, undef, undef, undef, undef, undef, undef, undef, undef, undef, undef, undef, undef, undef, undef, undef, undef, undef, undef, undef, undef, undef, undef, undef, undef, undef], defers := [] } ∧ Below W10.heap.size W10 W ∧
              (Fl9 0 = true → x168 = .slice (some ⟨g2, 0, none⟩) 3 c2) ∧
              (Fl9 1 = true → x169 = .pointer (some ⟨g2, 1, none⟩)) ∧
              (Fl9 2 = true → x170 = .int .i64 zb) ∧
              (Fl9 3 = true → x171 = .slice (some ⟨g2, 0, none⟩) 3 c2) ∧
              (Fl9 4 = true → x172 = .pointer (some ⟨g2, 0, none⟩)) ∧
              (Fl9 5 = true → x173 = .int .i64 za) ∧
              (Fl9 6 = true → x174 = .slice (some ⟨g2, 0, none⟩) 3 c2) ∧
              (Fl9 7 = true → x175 = .pointer (some ⟨g2, 2, none⟩)) ∧
              (Fl9 8 = true → x176 = .int .i64 zc) ∧
              (Fl9 9 = true → ∃ g B, x177 = .slice (some ⟨g, 0, none⟩) 3 3 ∧ IsI6 W B (some ⟨g, 0, none⟩) 3 [zb, za, zc]) ∧
              (Fl9 10 = true → x178 = .tuple #[.int .i64 m2, .bool true]) ∧
              (Fl9 11 = true → x167 = .tuple #[.int .i64 m2, .bool true]) ∧
              (Fl9 12 = true → x179 = .int .i64 m2) ∧
              (Fl9 13 = true → x180 = .bool true) ∧
              (Fl9 14 = true → x24 = .int .i64 m2) ∧
              (Fl9 15 = true → x25 = .bool true)) ?_ ?_ ?_
        · exact ⟨_, _, _, _, _, _, _, _, _, _, _, _, _, _, _, _, rfl, (Drawn.one W10 1).below _, (fun q0 => nomatch q0), (fun q0 => nomatch q0), (fun q0 => nomatch q0), (fun q0 => nomatch q0), (fun q0 => nomatch q0), (fun q0 => nomatch q0), (fun q0 => nomatch q0), (fun q0 => nomatch q0), (fun q0 => nomatch q0), (fun q0 => nomatch q0), (fun q0 => nomatch q0), (fun q0 => nomatch q0), (fun q0 => nomatch q0), (fun q0 => nomatch q0), (fun q0 => nomatch q0), (fun q0 => nomatch q0)⟩
        · intro Fl9 ac W i9 o9 hJ ho hL hdep K9 hK
          obtain ⟨x168, x169, x170, x171, x172, x173, x174, x175, x176, x177, x178, x167, x179, x180, x24, x25, rfl, hB, hh0, hh1, hh2, hh3, hh4, hh5, hh6, hh7, hh8, hh9, hh10, hh11, hh12, hh13, hh14, hh15⟩ := hJ
          have hi9 : i9 < 16 := by simpa using (Array.getElem?_eq_some_iff.1 ho).1
          have QW := three6 (HL10.out.below hB HL10.out.low)
          obtain ⟨C0, C1, C2⟩ := QW
          obtain rfl | rfl | rfl | rfl | rfl | rfl | rfl | rfl | rfl | rfl | rfl | rfl | rfl | rfl | rfl | rfl : i9 = 0 ∨ i9 = 1 ∨ i9 = 2 ∨ i9 = 3 ∨ i9 = 4 ∨ i9 = 5 ∨ i9 = 6 ∨ i9 = 7 ∨ i9 = 8 ∨ i9 = 9 ∨ i9 = 10 ∨ i9 = 11 ∨ i9 = 12 ∨ i9 = 13 ∨ i9 = 14 ∨ i9 = 15 := by omega
          · -- operation 0
            cases ho
            go_simp
            exact hK _ _ ⟨_, _, _, _, _, _, _, _, _, _, _, _, _, _, _, _, rfl, hB, fun _ => rfl, hh1, hh2, hh3, hh4, hh5, hh6, hh7, hh8, hh9, hh10, hh11, hh12, hh13, hh14, hh15⟩
          · -- operation 1
            cases ho
            obtain rfl := hh0 (hdep ⟨0, .data⟩ (by simp) rfl)
            go_simp
            exact hK _ _ ⟨_, _, _, _, _, _, _, _, _, _, _, _, _, _, _, _, rfl, hB, hh0, fun _ => rfl, hh2, hh3, hh4, hh5, hh6, hh7, hh8, hh9, hh10, hh11, hh12, hh13, hh14, hh15⟩
          · -- operation 2
            cases ho
            obtain rfl := hh1 (hdep ⟨1, .data⟩ (by simp) rfl)
            go_simp
            exact hK _ _ ⟨_, _, _, _, _, _, _, _, _, _, _, _, _, _, _, _, rfl, hB, hh0, hh1, fun _ => rfl, hh3, hh4, hh5, hh6, hh7, hh8, hh9, hh10, hh11, hh12, hh13, hh14, hh15⟩
          · -- operation 3
            cases ho
            go_simp
            exact hK _ _ ⟨_, _, _, _, _, _, _, _, _, _, _, _, _, _, _, _, rfl, hB, hh0, hh1, hh2, fun _ => rfl, hh4, hh5, hh6, hh7, hh8, hh9, hh10, hh11, hh12, hh13, hh14, hh15⟩
          · -- operation 4
            cases ho
            obtain rfl := hh3 (hdep ⟨3, .data⟩ (by simp) rfl)
            go_simp
            exact hK _ _ ⟨_, _, _, _, _, _, _, _, _, _, _, _, _, _, _, _, rfl, hB, hh0, hh1, hh2, hh3, fun _ => rfl, hh5, hh6, hh7, hh8, hh9, hh10, hh11, hh12, hh13, hh14, hh15⟩
          · -- operation 5
            cases ho
            obtain rfl := hh4 (hdep ⟨4, .data⟩ (by simp) rfl)
            go_simp
            exact hK _ _ ⟨_, _, _, _, _, _, _, _, _, _, _, _, _, _, _, _, rfl, hB, hh0, hh1, hh2, hh3, hh4, fun _ => rfl, hh6, hh7, hh8, hh9, hh10, hh11, hh12, hh13, hh14, hh15⟩
          · -- operation 6
            cases ho
            go_simp
            exact hK _ _ ⟨_, _, _, _, _, _, _, _, _, _, _, _, _, _, _, _, rfl, hB, hh0, hh1, hh2, hh3, hh4, hh5, fun _ => rfl, hh7, hh8, hh9, hh10, hh11, hh12, hh13, hh14, hh15⟩
          · -- operation 7
            cases ho
            obtain rfl := hh6 (hdep ⟨6, .data⟩ (by simp) rfl)
            go_simp
            exact hK _ _ ⟨_, _, _, _, _, _, _, _, _, _, _, _, _, _, _, _, rfl, hB, hh0, hh1, hh2, hh3, hh4, hh5, hh6, fun _ => rfl, hh8, hh9, hh10, hh11, hh12, hh13, hh14, hh15⟩
          · -- operation 8
            cases ho
            obtain rfl := hh7 (hdep ⟨7, .data⟩ (by simp) rfl)
            go_simp
            exact hK _ _ ⟨_, _, _, _, _, _, _, _, _, _, _, _, _, _, _, _, rfl, hB, hh0, hh1, hh2, hh3, hh4, hh5, hh6, hh7, fun _ => rfl, hh9, hh10, hh11, hh12, hh13, hh14, hh15⟩
          · -- operation 9
            cases ho
            obtain rfl := hh2 (hdep ⟨2, .data⟩ (by simp) rfl)
            obtain rfl := hh5 (hdep ⟨5, .data⟩ (by simp) rfl)
            obtain rfl := hh8 (hdep ⟨8, .data⟩ (by simp) rfl)
            go_simp
            exact hK _ _ ⟨_, _, _, _, _, _, _, _, _, _, _, _, _, _, _, _, rfl, hB.trans ((Below.alloc (Below.refl W.heap.size W) (Nat.le_refl _) _).mono hB.size), hh0, hh1, hh2, hh3, hh4, hh5, hh6, hh7, hh8, fun _ => ⟨_, _, rfl, isI_new W _ _ _⟩, hh10, hh11, hh12, hh13, hh14, hh15⟩
          · -- operation 10
            cases ho
            have hd9 := hdep ⟨9, .data⟩ (by simp) rfl
            obtain ⟨g9, B9, rfl, hI9⟩ := hh9 hd9
            go_simp
            refine (medIm_any (some ⟨g9, 0, none⟩) 3 3 B9 _ m2 true HA2.out W rfl (by omega) hI9.low hI9.has).mono ?_
            rintro e w9x ⟨rfl, hb9⟩
            exact hK _ _ ⟨_, _, _, _, _, _, _, _, _, _, _, _, _, _, _, _, rfl, hB.trans (hb9.mono hB.size), hh0, hh1, hh2, hh3, hh4, hh5, hh6, hh7, hh8, fun q0 => (fun ⟨g, B, e, h⟩ => ⟨g, B, e, h.below hb9 h.low⟩) (hh9 q0), fun _ => rfl, hh11, hh12, hh13, hh14, hh15⟩
          · -- operation 11
            cases ho
            have hd10 := hdep ⟨10, .data⟩ (by simp) rfl
            obtain rfl := hh10 hd10
            go_simp
            exact hK _ _ ⟨_, _, _, _, _, _, _, _, _, _, _, _, _, _, _, _, rfl, hB, hh0, hh1, hh2, hh3, hh4, hh5, hh6, hh7, hh8, hh9, hh10, fun _ => rfl, hh12, hh13, hh14, hh15⟩
          · -- operation 12
            cases ho
            obtain rfl := hh11 (hdep ⟨11, .data⟩ (by simp) rfl)
            go_simp
            exact hK _ _ ⟨_, _, _, _, _, _, _, _, _, _, _, _, _, _, _, _, rfl, hB, hh0, hh1, hh2, hh3, hh4, hh5, hh6, hh7, hh8, hh9, hh10, hh11, fun _ => rfl, hh13, hh14, hh15⟩
          · -- operation 13
            cases ho
            obtain rfl := hh11 (hdep ⟨11, .data⟩ (by simp) rfl)
            go_simp
            exact hK _ _ ⟨_, _, _, _, _, _, _, _, _, _, _, _, _, _, _, _, rfl, hB, hh0, hh1, hh2, hh3, hh4, hh5, hh6, hh7, hh8, hh9, hh10, hh11, hh12, fun _ => rfl, hh14, hh15⟩
          · -- operation 14
            cases ho
            obtain rfl := hh12 (hdep ⟨12, .data⟩ (by simp) rfl)
            go_simp
            exact hK _ _ ⟨_, _, _, _, _, _, _, _, _, _, _, _, _, _, _, _, rfl, hB, hh0, hh1, hh2, hh3, hh4, hh5, hh6, hh7, hh8, hh9, hh10, hh11, hh12, hh13, fun _ => rfl, hh15⟩
          · -- operation 15
            cases ho
            obtain rfl := hh13 (hdep ⟨13, .data⟩ (by simp) rfl)
            go_simp
            exact hK _ _ ⟨_, _, _, _, _, _, _, _, _, _, _, _, _, _, _, _, rfl, hB, hh0, hh1, hh2, hh3, hh4, hh5, hh6, hh7, hh8, hh9, hh10, hh11, hh12, hh13, hh14, fun _ => rfl⟩
        intro Fl9 ac W hJ hall
        obtain ⟨x168, x169, x170, x171, x172, x173, x174, x175, x176, x177, x178, x167, x179, x180, x24, x25, rfl, hB, hh0, hh1, hh2, hh3, hh4, hh5, hh6, hh7, hh8, hh9, hh10, hh11, hh12, hh13, hh14, hh15⟩ := hJ
        obtain rfl := hh0 (hall 0 (by decide))
        obtain rfl := hh1 (hall 1 (by decide))
        obtain rfl := hh2 (hall 2 (by decide))
        obtain rfl := hh3 (hall 3 (by decide))
        obtain rfl := hh4 (hall 4 (by decide))
        obtain rfl := hh5 (hall 5 (by decide))
        obtain rfl := hh6 (hall 6 (by decide))
        obtain rfl := hh7 (hall 7 (by decide))
        obtain rfl := hh8 (hall 8 (by decide))
        obtain rfl := hh11 (hall 11 (by decide))
        obtain rfl := hh12 (hall 12 (by decide))
        obtain rfl := hh13 (hall 13 (by decide))
        obtain rfl := hh14 (hall 14 (by decide))
        obtain rfl := hh15 (hall 15 (by decide))
        obtain ⟨gz167, Bz167, rfl, -⟩ := hh9 (hall 9 (by decide))
        obtain rfl := hh10 (hall 10 (by decide))
        clear hall
        rename World => W11
        have HB11 := Lib.hid (HB10.out.trans (hB.mono HB10.out.size))
        have HL11 := Lib.hid (HL10.out.below hB HL10.out.low)
        have CH := Lib.hid (rHas_yes c2 HL11.out (by omega) m2 HMem.out)
        clear hB HB10 HL10 HA2
        go_wp2_with fail
        refine CH.out.mono ?_
        rintro e w12 ⟨rfl, rfl⟩
        clear CH HL11 HMem
        -- the drawn triples among which one may be suspect
        have D3 := Lib.hid (drawSus_any c (HC.out.on HB11.out))
        clear HC
        go_wp2_with fail
        refine D3.out.mono ?_
        rintro e w20 ⟨g3, c3, q3, vs, z3, rfl, hq3, hn4, hvs, hb⟩
        have HB20 := Lib.hid (HB11.out.trans (hb.mono HB11.out.size))
        have HL := Lib.hid hvs
        clear hb D3 HB11 hvs
        obtain ⟨m3, x3, hS⟩ := susA_ex (tss vs) z3
        have hn9 : ∀ k, k < q3 → (vs.getD k noSl).n ≤ 1048576 := fun k hk => by have := hn4 k hk; omega
        have HS := Lib.hid hS
        have HN := Lib.hid hn9
        have C1 := Lib.hid (susI_any c3 HL.out (by omega) hn9 z3 m3 x3 hS)
        have hmm3 : (m3 == m3) = true := by simp
        have hxx3 : (x3 == x3) = true := by simp
        clear hS hn9 hn4
        go_wp2_with fail
        refine C1.out.mono ?_
        rintro e w21 ⟨rfl, hb⟩
        have HB21 := Lib.hid (HB20.out.trans (hb.mono HB20.out.size))
        have HL21 := Lib.hid (HL.out.below hb HL.out.low)
        clear hb HB20 HL C1
        have C2 := Lib.hid (susS_any c3 HL21.out (by omega) HN.out z3 m3 x3 HS.out)
        go_wp2_with fail
        refine C2.out.mono ?_
        rintro e w22 ⟨rfl, hb⟩
        have HB22 := Lib.hid (HB21.out.trans (hb.mono HB21.out.size))
        clear hb HB21 HL21 C2 HS HN
        go_wp2_with fail
        go_ret
        exact ⟨rfl, HB22.out⟩
    · have hl9 : ¬ ((2 : Int) ≤ (Ln : Int)) := by omega
      clear HL6 HG6 HV HLn
      -- the drawn triple whose median is asked
      have D2 := Lib.hid (drawMed_any c (HC.out.on HB6.out))
      go_wp2_with fail
      refine D2.out.mono ?_
      rintro e w7 ⟨g2, c2, q2, L2, rfl, hq2, hqc2, hL2, hb⟩
      have HB7 := Lib.hid (HB6.out.trans (hb.mono HB6.out.size))
      have HL := Lib.hid hL2
      clear hb D2 HB6 hL2
      obtain ⟨m2, x2, hM⟩ := medA_ex L2
      have HM := Lib.hid hM
      have C1 := Lib.hid (medIm_any (some ⟨g2, 0, none⟩) q2 c2 _ L2 m2 x2 hM w7 HL.out.len (by omega) HL.out.low HL.out.has)
      have hmm2 : (m2 != m2) = false := by simp
      have hxx2 : (x2 != x2) = false := by simp
      clear hM
      go_wp2_with fail
      refine C1.out.mono ?_
      rintro e w8 ⟨rfl, hb⟩
      have HB8 := Lib.hid (HB7.out.trans (hb.mono HB7.out.size))
      have HL8 := Lib.hid (HL.out.below hb HL.out.low)
      clear hb HB7 HL C1
      have C2 := Lib.hid (medSp_any (some ⟨g2, 0, none⟩) q2 c2 _ L2 m2 x2 HM.out w8 HL8.out.len (by omega) HL8.out.low HL8.out.has)
      go_wp2_with fail
      refine C2.out.mono ?_
      rintro e w9 ⟨rfl, hb⟩
      have HB9 := Lib.hid (HB8.out.trans (hb.mono HB8.out.size))
      have HL9 := Lib.hid (HL8.out.below hb HL8.out.low)
      clear hb HB8 HL8 C2
      cases x2 with
      | false =>
        clear HM HL9
        -- the drawn triples among which one may be suspect
        have D3 := Lib.hid (drawSus_any c (HC.out.on HB9.out))
        clear HC
        go_wp2_with fail
        refine D3.out.mono ?_
        rintro e w20 ⟨g3, c3, q3, vs, z3, rfl, hq3, hn4, hvs, hb⟩
        have HB20 := Lib.hid (HB9.out.trans (hb.mono HB9.out.size))
        have HL := Lib.hid hvs
        clear hb D3 HB9 hvs
        obtain ⟨m3, x3, hS⟩ := susA_ex (tss vs) z3
        have hn9 : ∀ k, k < q3 → (vs.getD k noSl).n ≤ 1048576 := fun k hk => by have := hn4 k hk; omega
        have HS := Lib.hid hS
        have HN := Lib.hid hn9
        have C1 := Lib.hid (susI_any c3 HL.out (by omega) hn9 z3 m3 x3 hS)
        have hmm3 : (m3 == m3) = true := by simp
        have hxx3 : (x3 == x3) = true := by simp
        clear hS hn9 hn4
        go_wp2_with fail
        refine C1.out.mono ?_
        rintro e w21 ⟨rfl, hb⟩
        have HB21 := Lib.hid (HB20.out.trans (hb.mono HB20.out.size))
        have HL21 := Lib.hid (HL.out.below hb HL.out.low)
        clear hb HB20 HL C1
        have C2 := Lib.hid (susS_any c3 HL21.out (by omega) HN.out z3 m3 x3 HS.out)
        go_wp2_with fail
        refine C2.out.mono ?_
        rintro e w22 ⟨rfl, hb⟩
        have HB22 := Lib.hid (HB21.out.trans (hb.mono HB21.out.size))
        clear hb HB21 HL21 C2 HS HN
        go_wp2_with fail
        go_ret
        exact ⟨rfl, HB22.out⟩
      | true =>
        obtain ⟨ht, hmem, hA1, hA2⟩ := med_mix HM.out
        obtain rfl : q2 = 3 := by rw [← HL9.out.len]; exact ht.1
        obtain ⟨za, zb, zc, rfl, -⟩ := triS_three ht
        have HMem := Lib.hid hmem
        have HA1 : Hid (MedA [zc, za, zb] m2 true) := Lib.hid hA1
        have HA2 : Hid (MedA [zb, za, zc] m2 true) := Lib.hid hA2
        clear hmem hA1 hA2 ht HM
        go_wp2_with fail
        refine region_inv (by kernel_rfl) (by kernel_rfl) (fun Fl9 ac W => ∃ (x154 x155 x156 x157 x158 x159 x160 x161 x162 x163 x164 x153 x165 x166 x22 x23 : Value), ac = { tmps := #[Value.slice A n c, undef, Value.bool false, Value.slice (some ⟨g1, 0, none⟩) q1 c1, Value.int IntKind.i64 z1, Value.int IntKind.i64 m, Value.bool false, Value.int IntKind.i64 m, Value.bool false, Value.slice (some ⟨ga, 0, none⟩) Ln ca, Value.bool true, Value.slice (some ⟨gw, 0, none⟩) Ln cw, Value.bool true, undef, undef, undef, undef, Value.slice (some ⟨g2, 0, none⟩) 3 c2, Value.int IntKind.i64 m2, Value.bool true, Value.int IntKind.i64 m2, Value.bool true, x22, x23, undef, undef, undef, undef, undef, undef, undef, undef, Value.slice A n c, Value.bool false, Value.tuple #[Value.slice (some ⟨g1, 0, none⟩) q1 c1, Value.int IntKind.i64 z1], Value.slice A n c, Value.tuple #[Value.slice (some ⟨g1, 0, none⟩) q1 c1, Value.int IntKind.i64 z1], Value.slice (some ⟨g1, 0, none⟩) q1 c1, Value.int IntKind.i64 z1, Value.tuple #[Value.int IntKind.i64 m, Value.bool false], Value.slice (some ⟨g1, 0, none⟩) q1 c1, Value.int IntKind.i64 z1, Value.tuple #[Value.int IntKind.i64 m, Value.bool false], Value.int IntKind.i64 m, Value.bool false, Value.tuple #[Value.int IntKind.i64 m, Value.bool false], Value.slice (some ⟨g1, 0, none⟩) q1 c1, Value.int IntKind.i64 z1, Value.tuple #[Value.int IntKind.i64 m, Value.bool false], Value.int IntKind.i64 m, Value.bool false, Value.int IntKind.i64 m, Value.int IntKind.i64 m, Value.bool false, Value.bool false, Value.bool false, Value.bool false, Value.bool false, Value.bool false, Value.tuple #[Value.slice (some ⟨ga, 0, none⟩) Ln ca, Value.bool true], Value.slice (some ⟨g1, 0, none⟩) q1 c1, Value.int IntKind.i64 z1, Value.tuple #[Value.slice (some ⟨ga, 0, none⟩) Ln ca, Value.bool true], Value.slice (some ⟨ga, 0, none⟩) Ln ca, Value.bool true, Value.tuple #[Value.slice (some ⟨gw, 0, none⟩) Ln cw, Value.bool true], Value.slice (some ⟨g1, 0, none⟩) q1 c1, Value.int IntKind.i64 z1, Value.tuple #[Value.slice (some ⟨gw, 0, none⟩) Ln cw, Value.bool true], Value.slice (some ⟨gw, 0, none⟩) Ln cw, Value.bool true, Value.bool true, Value.bool true, Value.bool false, Value.bool false, Value.slice (some ⟨ga, 0, none⟩) Ln ca, Value.slice (some ⟨gw, 0, none⟩) Ln cw, Value.bool true, Value.bool false, Value.bool false, Value.bool false, Value.bool true, Value.bool true, Value.bool false, Value.slice (some ⟨ga, 0, none⟩) Ln ca, Value.int IntKind.i64 (Ln : Int), Value.bool (decide (2 ≤ (Ln : Int))), Value.bool (decide (2 ≤ (Ln : Int))), Value.bool (decide (2 ≤ (Ln : Int))), Value.bool (decide (2 ≤ (Ln : Int))), Value.bool false, undef, undef, undef, undef, undef, undef, undef, undef, undef, undef, undef, undef, undef, undef, undef, undef, undef, undef, undef, undef, undef, undef, undef, undef, undef, undef, undef, undef, undef, undef, undef, undef, undef, undef, undef, undef, undef, undef, undef, undef, undef, Value.slice A n c, Value.slice (some ⟨g2, 0, none⟩) 3 c2, Value.tuple #[Value.int IntKind.i64 m2, Value.bool true], Value.slice (some ⟨g2, 0, none⟩) 3 c2, Value.tuple #[Value.int IntKind.i64 m2, Value.bool true], Value.int IntKind.i64 m2, Value.bool true, Value.tuple #[Value.int IntKind.i64 m2, Value.bool true], Value.slice (some ⟨g2, 0, none⟩) 3 c2, Value.tuple #[Value.int IntKind.i64 m2, Value.bool true], Value.int IntKind.i64 m2, Value.bool true, Value.int IntKind.i64 m2, Value.int IntKind.i64 m2, Value.bool false, Value.bool false, Value.bool true, Value.bool true, Value.bool false, Value.bool false, Value.bool true, x153, x154, x155, x156, x157, x158, x159, x160, x161, x162, x163, x164, x165, x166, undef, undef, undef, undef, undef, undef, undef, undef, undef, undef, undef, undef, undef, undef, undef, undef, undef, undef, undef, undef, undef, undef, undef, undef, undef, undef, undef, undef, undef, undef, undef, undef, undef, undef, undef, undef, undef, undef, undef, undef, undef, undef, undef, undef, undef, undef, undef, undef, undef, undef, undef, undef, undef, undef, undef, undef, undef, undef, undef, undef, undef], defers := [] } ∧ Below w9.heap.size w9 W ∧
              (Fl9 0 = true → x154 = .slice (some ⟨g2, 0, none⟩) 3 c2) ∧
              (Fl9 1 = true → x155 = .pointer (some ⟨g2, 2, none⟩)) ∧
              (Fl9 2 = true → x156 = .int .i64 zc) ∧
              (Fl9 3 = true → x157 = .slice (some ⟨g2, 0, none⟩) 3 c2) ∧
              (Fl9 4 = true → x158 = .pointer (some ⟨g2, 0, none⟩)) ∧
              (Fl9 5 = true → x159 = .int .i64 za) ∧
              (Fl9 6 = true → x160 = .slice (some ⟨g2, 0, none⟩) 3 c2) ∧
              (Fl9 7 = true → x161 = .pointer (some ⟨g2, 1, none⟩)) ∧
              (Fl9 8 = true → x162 = .int .i64 zb) ∧
              (Fl9 9 = true → ∃ g B, x163 = .slice (some ⟨g, 0, none⟩) 3 3 ∧ IsI6 W B (some ⟨g, 0, none⟩) 3 [zc, za, zb]) ∧
              (Fl9 10 = true → x164 = .tuple #[.int .i64 m2, .bool true]) ∧
              (Fl9 11 = true → x153 = .tuple #[.int .i64 m2, .bool true]) ∧
              (Fl9 12 = true → x165 = .int .i64 m2) ∧
              (Fl9 13 = true → x166 = .bool true) ∧
              (Fl9 14 = true → x22 = .int .i64 m2) ∧
              (Fl9 15 = true → x23 = .bool true)) ?_ ?_ ?_
        · exact ⟨_, _, _, _, _, _, _, _, _, _, _, _, _, _, _, _, rfl, (Drawn.one w9 1).below _, (fun q0 => nomatch q0), (fun q0 => nomatch q0), (fun q0 => nomatch q0), (fun q0 => nomatch q0), (fun q0 => nomatch q0), (fun q0 => nomatch q0), (fun q0 => nomatch q0), (fun q0 => nomatch q0), (fun q0 => nomatch q0), (fun q0 => nomatch q0), (fun q0 => nomatch q0), (fun q0 => nomatch q0), (fun q0 => nomatch q0), (fun q0 => nomatch q0), (fun q0 => nomatch q0), (fun q0 => nomatch q0)⟩
        · intro Fl9 ac W i9 o9 hJ ho hL hdep K9 hK
          obtain ⟨x154, x155, x156, x157, x158, x159, x160, x161, x162, x163, x164, x153, x165, x166, x22, x23, rfl, hB, hh0, hh1, hh2, hh3, hh4, hh5, hh6, hh7, hh8, hh9, hh10, hh11, hh12, hh13, hh14, hh15⟩ := hJ
          have hi9 : i9 < 16 := by simpa using (Array.getElem?_eq_some_iff.1 ho).1
          have QW := three6 (HL9.out.below hB HL9.out.low)
          obtain ⟨C0, C1, C2⟩ := QW
          obtain rfl | rfl | rfl | rfl | rfl | rfl | rfl | rfl | rfl | rfl | rfl | rfl | rfl | rfl | rfl | rfl : i9 = 0 ∨ i9 = 1 ∨ i9 = 2 ∨ i9 = 3 ∨ i9 = 4 ∨ i9 = 5 ∨ i9 = 6 ∨ i9 = 7 ∨ i9 = 8 ∨ i9 = 9 ∨ i9 = 10 ∨ i9 = 11 ∨ i9 = 12 ∨ i9 = 13 ∨ i9 = 14 ∨ i9 = 15 := by omega
          · -- operation 0
            cases ho
            go_simp
            exact hK _ _ ⟨_, _, _, _, _, _, _, _, _, _, _, _, _, _, _, _, rfl, hB, fun _ => rfl, hh1, hh2, hh3, hh4, hh5, hh6, hh7, hh8, hh9, hh10, hh11, hh12, hh13, hh14, hh15⟩
          · -- operation 1
            cases ho
            obtain rfl := hh0 (hdep ⟨0, .data⟩ (by simp) rfl)
            go_simp
            exact hK _ _ ⟨_, _, _, _, _, _, _, _, _, _, _, _, _, _, _, _, rfl, hB, hh0, fun _ => rfl, hh2, hh3, hh4, hh5, hh6, hh7, hh8, hh9, hh10, hh11, hh12, hh13, hh14, hh15⟩
          · -- operation 2
            cases ho
            obtain rfl := hh1 (hdep ⟨1, .data⟩ (by simp) rfl)
            go_simp
            exact hK _ _ ⟨_, _, _, _, _, _, _, _, _, _, _, _, _, _, _, _, rfl, hB, hh0, hh1, fun _ => rfl, hh3, hh4, hh5, hh6, hh7, hh8, hh9, hh10, hh11, hh12, hh13, hh14, hh15⟩
          · -- operation 3
            cases ho
            go_simp
            exact hK _ _ ⟨_, _, _, _, _, _, _, _, _, _, _, _, _, _, _, _, rfl, hB, hh0, hh1, hh2, fun _ => rfl, hh4, hh5, hh6, hh7, hh8, hh9, hh10, hh11, hh12, hh13, hh14, hh15⟩
          · -- operation 4
            cases ho
            obtain rfl := hh3 (hdep ⟨3, .data⟩ (by simp) rfl)
            go_simp
            exact hK _ _ ⟨_, _, _, _, _, _, _, _, _, _, _, _, _, _, _, _, rfl, hB, hh0, hh1, hh2, hh3, fun _ => rfl, hh5, hh6, hh7, hh8, hh9, hh10, hh11, hh12, hh13, hh14, hh15⟩
          · -- operation 5
            cases ho
            obtain rfl := hh4 (hdep ⟨4, .data⟩ (by simp) rfl)
            go_simp
            exact hK _ _ ⟨_, _, _, _, _, _, _, _, _, _, _, _, _, _, _, _, rfl, hB, hh0, hh1, hh2, hh3, hh4, fun _ => rfl, hh6, hh7, hh8, hh9, hh10, hh11, hh12, hh13, hh14, hh15⟩
          · -- operation 6
            cases ho
            go_simp
            exact hK _ _ ⟨_, _, _, _, _, _, _, _, _, _, _, _, _, _, _, _, rfl, hB, hh0, hh1, hh2, hh3, hh4, hh5, fun _ => rfl, hh7, hh8, hh9, hh10, hh11, hh12, hh13, hh14, hh15⟩
          · -- operation 7
            cases ho
            obtain rfl := hh6 (hdep ⟨6, .data⟩ (by simp) rfl)
            go_simp
            exact hK _ _ ⟨_, _, _, _, _, _, _, _, _, _, _, _, _, _, _, _, rfl, hB, hh0, hh1, hh2, hh3, hh4, hh5, hh6, fun _ => rfl, hh8, hh9, hh10, hh11, hh12, hh13, hh14, hh15⟩
          · -- operation 8
            cases ho
            obtain rfl := hh7 (hdep ⟨7, .data⟩ (by simp) rfl)
            go_simp
            exact hK _ _ ⟨_, _, _, _, _, _, _, _, _, _, _, _, _, _, _, _, rfl, hB, hh0, hh1, hh2, hh3, hh4, hh5, hh6, hh7, fun _ => rfl, hh9, hh10, hh11, hh12, hh13, hh14, hh15⟩
          · -- operation 9
            cases ho
            obtain rfl := hh2 (hdep ⟨2, .data⟩ (by simp) rfl)
            obtain rfl := hh5 (hdep ⟨5, .data⟩ (by simp) rfl)
            obtain rfl := hh8 (hdep ⟨8, .data⟩ (by simp) rfl)
            go_simp
            exact hK _ _ ⟨_, _, _, _, _, _, _, _, _, _, _, _, _, _, _, _, rfl, hB.trans ((Below.alloc (Below.refl W.heap.size W) (Nat.le_refl _) _).mono hB.size), hh0, hh1, hh2, hh3, hh4, hh5, hh6, hh7, hh8, fun _ => ⟨_, _, rfl, isI_new W _ _ _⟩, hh10, hh11, hh12, hh13, hh14, hh15⟩
          · -- operation 10
            cases ho
            have hd9 := hdep ⟨9, .data⟩ (by simp) rfl
            obtain ⟨g9, B9, rfl, hI9⟩ := hh9 hd9
            go_simp
            refine (medIm_any (some ⟨g9, 0, none⟩) 3 3 B9 _ m2 true HA1.out W rfl (by omega) hI9.low hI9.has).mono ?_
            rintro e w9x ⟨rfl, hb9⟩
            exact hK _ _ ⟨_, _, _, _, _, _, _, _, _, _, _, _, _, _, _, _, rfl, hB.trans (hb9.mono hB.size), hh0, hh1, hh2, hh3, hh4, hh5, hh6, hh7, hh8, fun q0 => (fun ⟨g, B, e, h⟩ => ⟨g, B, e, h.below hb9 h.low⟩) (hh9 q0), fun _ => rfl, hh11, hh12, hh13, hh14, hh15⟩
          · -- operation 11
            cases ho
            have hd10 := hdep ⟨10, .data⟩ (by simp) rfl
            obtain rfl := hh10 hd10
            go_simp
            exact hK _ _ ⟨_, _, _, _, _, _, _, _, _, _, _, _, _, _, _, _, rfl, hB, hh0, hh1, hh2, hh3, hh4, hh5, hh6, hh7, hh8, hh9, hh10, fun _ => rfl, hh12, hh13, hh14, hh15⟩
          · -- operation 12
            cases ho
            obtain rfl := hh11 (hdep ⟨11, .data⟩ (by simp) rfl)
            go_simp
            exact hK _ _ ⟨_, _, _, _, _, _, _, _, _, _, _, _, _, _, _, _, rfl, hB, hh0, hh1, hh2, hh3, hh4, hh5, hh6, hh7, hh8, hh9, hh10, hh11, fun _ => rfl, hh13, hh14, hh15⟩
          · -- operation 13
            cases ho
            obtain rfl := hh11 (hdep ⟨11, .data⟩ (by simp) rfl)
            go_simp
            exact hK _ _ ⟨_, _, _, _, _, _, _, _, _, _, _, _, _, _, _, _, rfl, hB, hh0, hh1, hh2, hh3, hh4, hh5, hh6, hh7, hh8, hh9, hh10, hh11, hh12, fun _ => rfl, hh14, hh15⟩
          · -- operation 14
            cases ho
            obtain rfl := hh12 (hdep ⟨12, .data⟩ (by simp) rfl)
            go_simp
            exact hK _ _ ⟨_, _, _, _, _, _, _, _, _, _, _, _, _, _, _, _, rfl, hB, hh0, hh1, hh2, hh3, hh4, hh5, hh6, hh7, hh8, hh9, hh10, hh11, hh12, hh13, fun _ => rfl, hh15⟩
          · -- operation 15
            cases ho
            obtain rfl := hh13 (hdep ⟨13, .data⟩ (by simp) rfl)
            go_simp
            exact hK _ _ ⟨_, _, _, _, _, _, _, _, _, _, _, _, _, _, _, _, rfl, hB, hh0, hh1, hh2, hh3, hh4, hh5, hh6, hh7, hh8, hh9, hh10, hh11, hh12, hh13, hh14, fun _ => rfl⟩
        intro Fl9 ac W hJ hall
        obtain ⟨x154, x155, x156, x157, x158, x159, x160, x161, x162, x163, x164, x153, x165, x166, x22, x23, rfl, hB, hh0, hh1, hh2, hh3, hh4, hh5, hh6, hh7, hh8, hh9, hh10, hh11, hh12, hh13, hh14, hh15⟩ := hJ
        obtain rfl := hh0 (hall 0 (by decide))
        obtain rfl := hh1 (hall 1 (by decide))
        obtain rfl := hh2 (hall 2 (by decide))
        obtain rfl := hh3 (hall 3 (by decide))
        obtain rfl := hh4 (hall 4 (by decide))
        obtain rfl := hh5 (hall 5 (by decide))
        obtain rfl := hh6 (hall 6 (by decide))
        obtain rfl := hh7 (hall 7 (by decide))
        obtain rfl := hh8 (hall 8 (by decide))
        obtain rfl := hh11 (hall 11 (by decide))
        obtain rfl := hh12 (hall 12 (by decide))
        obtain rfl := hh13 (hall 13 (by decide))
        obtain rfl := hh14 (hall 14 (by decide))
        obtain rfl := hh15 (hall 15 (by decide))
        obtain ⟨gz153, Bz153, rfl, -⟩ := hh9 (hall 9 (by decide))
        obtain rfl := hh10 (hall 10 (by decide))
        clear hall
        rename World => W10
        have HB10 := Lib.hid (HB9.out.trans (hB.mono HB9.out.size))
        have HL10 := Lib.hid (HL9.out.below hB HL9.out.low)
        clear hB HB9 HL9 HA1
        go_wp2_with fail
        refine region_inv (by kernel_rfl) (by kernel_rfl) (fun Fl9 ac W => ∃ (x168 x169 x170 x171 x172 x173 x174 x175 x176 x177 x178 x167 x179 x180 x24 x25 : Value), ac = { tmps := #[Value.slice A n c, undef, Value.bool false, Value.slice (some ⟨g1, 0, none⟩) q1 c1, Value.int IntKind.i64 z1, Value.int IntKind.i64 m, Value.bool false, Value.int IntKind.i64 m, Value.bool false, Value.slice (some ⟨ga, 0, none⟩) Ln ca, Value.bool true, Value.slice (some ⟨gw, 0, none⟩) Ln cw, Value.bool true, undef, undef, undef, undef, Value.slice (some ⟨g2, 0, none⟩) 3 c2, Value.int IntKind.i64 m2, Value.bool true, Value.int IntKind.i64 m2, Value.bool true, Value.int IntKind.i64 m2, Value.bool true, x24, x25, undef, undef, undef, undef, undef, undef, Value.slice A n c, Value.bool false, Value.tuple #[Value.slice (some ⟨g1, 0, none⟩) q1 c1, Value.int IntKind.i64 z1], Value.slice A n c, Value.tuple #[Value.slice (some ⟨g1, 0, none⟩) q1 c1, Value.int IntKind.i64 z1], Value.slice (some ⟨g1, 0, none⟩) q1 c1, Value.int IntKind.i64 z1, Value.tuple #[Value.int IntKind.i64 m, Value.bool false], Value.slice (some ⟨g1, 0, none⟩) q1 c1, Value.int IntKind.i64 z1, Value.tuple #[Value.int IntKind.i64 m, Value.bool false], Value.int IntKind.i64 m, Value.bool false, Value.tuple #[Value.int IntKind.i64 m, Value.bool false], Value.slice (some ⟨g1, 0, none⟩) q1 c1, Value.int IntKind.i64 z1, Value.tuple #[Value.int IntKind.i64 m, Value.bool false], Value.int IntKind.i64 m, Value.bool false, Value.int IntKind.i64 m, Value.int IntKind.i64 m, Value.bool false, Value.bool false, Value.bool false, Value.bool false, Value.bool false, Value.bool false, Value.tuple #[Value.slice (some ⟨ga, 0, none⟩) Ln ca, Value.bool true], Value.slice (some ⟨g1, 0, none⟩) q1 c1, Value.int IntKind.i64 z1, Value.tuple #[Value.slice (some ⟨ga, 0, none⟩) Ln ca, Value.bool true], Value.slice (some ⟨ga, 0, none⟩) Ln ca, Value.bool true, Value.tuple #[Value.slice (some ⟨gw, 0, none⟩) Ln cw, Value.bool true], Value.slice (some ⟨g1, 0, none⟩) q1 c1, Value.int IntKind.i64 z1, Value.tuple #[Value.slice (some ⟨gw, 0, none⟩) Ln cw, Value.bool true], Value.slice (some ⟨gw, 0, none⟩) Ln cw, Value.bool true, Value.bool true, Value.bool true, Value.bool false, Value.bool false, Value.slice (some ⟨ga, 0, none⟩) Ln ca, Value.slice (some ⟨gw, 0, none⟩) Ln cw, Value.bool true, Value.bool false, Value.bool false, Value.bool false, Value.bool true, Value.bool true, Value.bool false, Value.slice (some ⟨ga, 0, none⟩) Ln ca, Value.int IntKind.i64 (Ln : Int), Value.bool (decide (2 ≤ (Ln : Int))), Value.bool (decide (2 ≤ (Ln : Int))), Value.bool (decide (2 ≤ (Ln : Int))), Value.bool (decide (2 ≤ (Ln : Int))), Value.bool false, undef, undef, undef, undef, undef, undef, undef, undef, undef, undef, undef, undef, undef, undef, undef, undef, undef, undef, undef, undef, undef, undef, undef, undef, undef, undef, undef, undef, undef, undef, undef, undef, undef, undef, undef, undef, undef, undef, undef, undef, undef, Value.slice A n c, Value.slice (some ⟨g2, 0, none⟩) 3 c2, Value.tuple #[Value.int IntKind.i64 m2, Value.bool true], Value.slice (some ⟨g2, 0, none⟩) 3 c2, Value.tuple #[Value.int IntKind.i64 m2, Value.bool true], Value.int IntKind.i64 m2, Value.bool true, Value.tuple #[Value.int IntKind.i64 m2, Value.bool true], Value.slice (some ⟨g2, 0, none⟩) 3 c2, Value.tuple #[Value.int IntKind.i64 m2, Value.bool true], Value.int IntKind.i64 m2, Value.bool true, Value.int IntKind.i64 m2, Value.int IntKind.i64 m2, Value.bool false, Value.bool false, Value.bool true, Value.bool true, Value.bool false, Value.bool false, Value.bool true, Value.tuple #[Value.int IntKind.i64 m2, Value.bool true], Value.slice (some ⟨g2, 0, none⟩) 3 c2, Value.pointer (some ⟨g2, 2, none⟩), Value.int IntKind.i64 zc, Value.slice (some ⟨g2, 0, none⟩) 3 c2, Value.pointer (some ⟨g2, 0, none⟩), Value.int IntKind.i64 za, Value.slice (some ⟨g2, 0, none⟩) 3 c2, Value.pointer (some ⟨g2, 1, none⟩), Value.int IntKind.i64 zb, Value.slice (some ⟨gz153, 0, none⟩) 3 3, Value.tuple #[Value.int IntKind.i64 m2, Value.bool true], Value.int IntKind.i64 m2, Value.bool true, x167, x168, x169, x170, x171, x172, x173, x174, x175, x176, x177, x178, x179, x180, undef, undef, undef, undef, undef, undef, undef, undef, undef, undef, undef, undef, undef, undef, undef, undef, undef, undef, undef, undef, undef, undef, undef, undef, undef, undef, undef, undef, undef, undef, undef, undef, undef, undef, undef, undef, undef, undef, undef, undef, undef, undef, undef, undef, undef, undef, undef], defers := [] } ∧ Below W10.heap.size W10 W ∧
              (Fl9 0 = true → x168 = .slice (some ⟨g2, 0, none⟩) 3 c2) ∧
              (Fl9 1 = true → x169 = .pointer (some ⟨g2, 1, none⟩)) ∧
              (Fl9 2 = true → x170 = .int .i64 zb) ∧
              (Fl9 3 = true → x171 = .slice (some ⟨g2, 0, none⟩) 3 c2) ∧
              (Fl9 4 = true → x172 = .pointer (some ⟨g2, 0, none⟩)) ∧
              (Fl9 5 = true → x173 = .int .i64 za) ∧
              (Fl9 6 = true → x174 = .slice (some ⟨g2, 0, none⟩) 3 c2) ∧
              (Fl9 7 = true → x175 = .pointer (some ⟨g2, 2, none⟩)) ∧
              (Fl9 8 = true → x176 = .int .i64 zc) ∧
              (Fl9 9 = true → ∃ g B, x177 = .slice (some ⟨g, 0, none⟩) 3 3 ∧ IsI6 W B (some ⟨g, 0, none⟩) 3 [zb, za, zc]) ∧
              (Fl9 10 = true → x178 = .tuple #[.int .i64 m2, .bool true]) ∧
              (Fl9 11 = true → x167 = .tuple #[.int .i64 m2, .bool true]) ∧
              (Fl9 12 = true → x179 = .int .i64 m2) ∧
              (Fl9 13 = true → x180 = .bool true) ∧
              (Fl9 14 = true → x24 = .int .i64 m2) ∧
              (Fl9 15 = true → x25 = .bool true)) ?_ ?_ ?_
        · exact ⟨_, _, _, _, _, _, _, _, _, _, _, _, _, _, _, _, rfl, (Drawn.one W10 1).below _, (fun q0 => nomatch q0), (fun q0 => nomatch q0), (fun q0 => nomatch q0), (fun q0 => nomatch q0), (fun q0 => nomatch q0), (fun q0 => nomatch q0), (fun q0 => nomatch q0), (fun q0 => nomatch q0), (fun q0 => nomatch q0), (fun q0 => nomatch q0), (fun q0 => nomatch q0), (fun q0 => nomatch q0), (fun q0 => nomatch q0), (fun q0 => nomatch q0), (fun q0 => nomatch q0), (fun q0 => nomatch q0)⟩
        · intro Fl9 ac W i9 o9 hJ ho hL hdep K9 hK
          obtain ⟨x168, x169, x170, x171, x172, x173, x174, x175, x176, x177, x178, x167, x179, x180, x24, x25, rfl, hB, hh0, hh1, hh2, hh3, hh4, hh5, hh6, hh7, hh8, hh9, hh10, hh11, hh12, hh13, hh14, hh15⟩ := hJ
          have hi9 : i9 < 16 := by simpa using (Array.getElem?_eq_some_iff.1 ho).1
          have QW := three6 (HL10.out.below hB HL10.out.low)
          obtain ⟨C0, C1, C2⟩ := QW
          obtain rfl | rfl | rfl | rfl | rfl | rfl | rfl | rfl | rfl | rfl | rfl | rfl | rfl | rfl | rfl | rfl : i9 = 0 ∨ i9 = 1 ∨ i9 = 2 ∨ i9 = 3 ∨ i9 = 4 ∨ i9 = 5 ∨ i9 = 6 ∨ i9 = 7 ∨ i9 = 8 ∨ i9 = 9 ∨ i9 = 10 ∨ i9 = 11 ∨ i9 = 12 ∨ i9 = 13 ∨ i9 = 14 ∨ i9 = 15 := by omega
          · -- operation 0
            cases ho
            go_simp
            exact hK _ _ ⟨_, _, _, _, _, _, _, _, _, _, _, _, _, _, _, _, rfl, hB, fun _ => rfl, hh1, hh2, hh3, hh4, hh5, hh6, hh7, hh8, hh9, hh10, hh11, hh12, hh13, hh14, hh15⟩
          · -- operation 1
            cases ho
            obtain rfl := hh0 (hdep ⟨0, .data⟩ (by simp) rfl)
            go_simp
            exact hK _ _ ⟨_, _, _, _, _, _, _, _, _, _, _, _, _, _, _, _, rfl, hB, hh0, fun _ => rfl, hh2, hh3, hh4, hh5, hh6, hh7, hh8, hh9, hh10, hh11, hh12, hh13, hh14, hh15⟩
          · -- operation 2
            cases ho
            obtain rfl := hh1 (hdep ⟨1, .data⟩ (by simp) rfl)
            go_simp
            exact hK _ _ ⟨_, _, _, _, _, _, _, _, _, _, _, _, _, _, _, _, rfl, hB, hh0, hh1, fun _ => rfl, hh3, hh4, hh5, hh6, hh7, hh8, hh9, hh10, hh11, hh12, hh13, hh14, hh15⟩
          · -- operation 3
            cases ho
            go_simp
            exact hK _ _ ⟨_, _, _, _, _, _, _, _, _, _, _, _, _, _, _, _, rfl, hB, hh0, hh1, hh2, fun _ => rfl, hh4, hh5, hh6, hh7, hh8, hh9, hh10, hh11, hh12, hh13, hh14, hh15⟩
          · -- operation 4
            cases ho
            obtain rfl := hh3 (hdep ⟨3, .data⟩ (by simp) rfl)
            go_simp
            exact hK _ _ ⟨_, _, _, _, _, _, _, _, _, _, _, _, _, _, _, _, rfl, hB, hh0, hh1, hh2, hh3, fun _ => rfl, hh5, hh6, hh7, hh8, hh9, hh10, hh11, hh12, hh13, hh14, hh15⟩
          · -- operation 5
            cases ho
            obtain rfl := hh4 (hdep ⟨4, .data⟩ (by simp) rfl)
            go_simp
            exact hK _ _ ⟨_, _, _, _, _, _, _, _, _, _, _, _, _, _, _, _, rfl, hB, hh0, hh1, hh2, hh3, hh4, fun _ => rfl, hh6, hh7, hh8, hh9, hh10, hh11, hh12, hh13, hh14, hh15⟩
          · -- operation 6
            cases ho
            go_simp
            exact hK _ _ ⟨_, _, _, _, _, _, _, _, _, _, _, _, _, _, _, _, rfl, hB, hh0, hh1, hh2, hh3, hh4, hh5, fun _ => rfl, hh7, hh8, hh9, hh10, hh11, hh12, hh13, hh14, hh15⟩
          · -- operation 7
            cases ho
            obtain rfl := hh6 (hdep ⟨6, .data⟩ (by simp) rfl)
            go_simp
            exact hK _ _ ⟨_, _, _, _, _, _, _, _, _, _, _, _, _, _, _, _, rfl, hB, hh0, hh1, hh2, hh3, hh4, hh5, hh6, fun _ => rfl, hh8, hh9, hh10, hh11, hh12, hh13, hh14, hh15⟩
          · -- operation 8
            cases ho
            obtain rfl := hh7 (hdep ⟨7, .data⟩ (by simp) rfl)
            go_simp
            exact hK _ _ ⟨_, _, _, _, _, _, _, _, _, _, _, _, _, _, _, _, rfl, hB, hh0, hh1, hh2, hh3, hh4, hh5, hh6, hh7, fun _ => rfl, hh9, hh10, hh11, hh12, hh13, hh14, hh15⟩
          · -- operation 9
            cases ho
            obtain rfl := hh2 (hdep ⟨2, .data⟩ (by simp) rfl)
            obtain rfl := hh5 (hdep ⟨5, .data⟩ (by simp) rfl)
            obtain rfl := hh8 (hdep ⟨8, .data⟩ (by simp) rfl)
            go_simp
            exact hK _ _ ⟨_, _, _, _, _, _, _, _, _, _, _, _, _, _, _, _, rfl, hB.trans ((Below.alloc (Below.refl W.heap.size W) (Nat.le_refl _) _).mono hB.size), hh0, hh1, hh2, hh3, hh4, hh5, hh6, hh7, hh8, fun _ => ⟨_, _, rfl, isI_new W _ _ _⟩, hh10, hh11, hh12, hh13, hh14, hh15⟩
          · -- operation 10
            cases ho
            have hd9 := hdep ⟨9, .data⟩ (by simp) rfl
            obtain ⟨g9, B9, rfl, hI9⟩ := hh9 hd9
            go_simp
            refine (medIm_any (some ⟨g9, 0, none⟩) 3 3 B9 _ m2 true HA2.out W rfl (by omega) hI9.low hI9.has).mono ?_
            rintro e w9x ⟨rfl, hb9⟩
            exact hK _ _ ⟨_, _, _, _, _, _, _, _, _, _, _, _, _, _, _, _, rfl, hB.trans (hb9.mono hB.size), hh0, hh1, hh2, hh3, hh4, hh5, hh6, hh7, hh8, fun q0 => (fun ⟨g, B, e, h⟩ => ⟨g, B, e, h.below hb9 h.low⟩) (hh9 q0), fun _ => rfl, hh11, hh12, hh13, hh14, hh15⟩
          · -- operation 11
            cases ho
            have hd10 := hdep ⟨10, .data⟩ (by simp) rfl
            obtain rfl := hh10 hd10
            go_simp
            exact hK _ _ ⟨_, _, _, _, _, _, _, _, _, _, _, _, _, _, _, _, rfl, hB, hh0, hh1, hh2, hh3, hh4, hh5, hh6, hh7, hh8, hh9, hh10, fun _ => rfl, hh12, hh13, hh14, hh15⟩
          · -- operation 12
            cases ho
            obtain rfl := hh11 (hdep ⟨11, .data⟩ (by simp) rfl)
            go_simp
            exact hK _ _ ⟨_, _, _, _, _, _, _, _, _, _, _, _, _, _, _, _, rfl, hB, hh0, hh1, hh2, hh3, hh4, hh5, hh6, hh7, hh8, hh9, hh10, hh11, fun _ => rfl, hh13, hh14, hh15⟩
          · -- operation 13
            cases ho
            obtain rfl := hh11 (hdep ⟨11, .data⟩ (by simp) rfl)
            go_simp
            exact hK _ _ ⟨_, _, _, _, _, _, _, _, _, _, _, _, _, _, _, _, rfl, hB, hh0, hh1, hh2, hh3, hh4, hh5, hh6, hh7, hh8, hh9, hh10, hh11, hh12, fun _ => rfl, hh14, hh15⟩
          · -- operation 14
            cases ho
            obtain rfl := hh12 (hdep ⟨12, .data⟩ (by simp) rfl)
            go_simp
            exact hK _ _ ⟨_, _, _, _, _, _, _, _, _, _, _, _, _, _, _, _, rfl, hB, hh0, hh1, hh2, hh3, hh4, hh5, hh6, hh7, hh8, hh9, hh10, hh11, hh12, hh13, fun _ => rfl, hh15⟩
          · -- operation 15
            cases ho
            obtain rfl := hh13 (hdep ⟨13, .data⟩ (by simp) rfl)
            go_simp
            exact hK _ _ ⟨_, _, _, _, _, _, _, _, _, _, _, _, _, _, _, _, rfl, hB, hh0, hh1, hh2, hh3, hh4, hh5, hh6, hh7, hh8, hh9, hh10, hh11, hh12, hh13, hh14, fun _ => rfl⟩
        intro Fl9 ac W hJ hall
        obtain ⟨x168, x169, x170, x171, x172, x173, x174, x175, x176, x177, x178, x167, x179, x180, x24, x25, rfl, hB, hh0, hh1, hh2, hh3, hh4, hh5, hh6, hh7, hh8, hh9, hh10, hh11, hh12, hh13, hh14, hh15⟩ := hJ
        obtain rfl := hh0 (hall 0 (by decide))
        obtain rfl := hh1 (hall 1 (by decide))
        obtain rfl := hh2 (hall 2 (by decide))
        obtain rfl := hh3 (hall 3 (by decide))
        obtain rfl := hh4 (hall 4 (by decide))
        obtain rfl := hh5 (hall 5 (by decide))
        obtain rfl := hh6 (hall 6 (by decide))
        obtain rfl := hh7 (hall 7 (by decide))
        obtain rfl := hh8 (hall 8 (by decide))
        obtain rfl := hh11 (hall 11 (by decide))
        obtain rfl := hh12 (hall 12 (by decide))
        obtain rfl := hh13 (hall 13 (by decide))
        obtain rfl := hh14 (hall 14 (by decide))
        obtain rfl := hh15 (hall 15 (by decide))
        obtain ⟨gz167, Bz167, rfl, -⟩ := hh9 (hall 9 (by decide))
        obtain rfl := hh10 (hall 10 (by decide))
        clear hall
        rename World => W11
        have HB11 := Lib.hid (HB10.out.trans (hB.mono HB10.out.size))
        have HL11 := Lib.hid (HL10.out.below hB HL10.out.low)
        have CH := Lib.hid (rHas_yes c2 HL11.out (by omega) m2 HMem.out)
        clear hB HB10 HL10 HA2
        go_wp2_with fail
        refine CH.out.mono ?_
        rintro e w12 ⟨rfl, rfl⟩
        clear CH HL11 HMem
        -- the drawn triples among which one may be suspect
        have D3 := Lib.hid (drawSus_any c (HC.out.on HB11.out))
        clear HC
        go_wp2_with fail
        refine D3.out.mono ?_
        rintro e w20 ⟨g3, c3, q3, vs, z3, rfl, hq3, hn4, hvs, hb⟩
        have HB20 := Lib.hid (HB11.out.trans (hb.mono HB11.out.size))
        have HL := Lib.hid hvs
        clear hb D3 HB11 hvs
        obtain ⟨m3, x3, hS⟩ := susA_ex (tss vs) z3
        have hn9 : ∀ k, k < q3 → (vs.getD k noSl).n ≤ 1048576 := fun k hk => by have := hn4 k hk; omega
        have HS := Lib.hid hS
        have HN := Lib.hid hn9
        have C1 := Lib.hid (susI_any c3 HL.out (by omega) hn9 z3 m3 x3 hS)
        have hmm3 : (m3 == m3) = true := by simp
        have hxx3 : (x3 == x3) = true := by simp
        clear hS hn9 hn4
        go_wp2_with fail
        refine C1.out.mono ?_
        rintro e w21 ⟨rfl, hb⟩
        have HB21 := Lib.hid (HB20.out.trans (hb.mono HB20.out.size))
        have HL21 := Lib.hid (HL.out.below hb HL.out.low)
        clear hb HB20 HL C1
        have C2 := Lib.hid (susS_any c3 HL21.out (by omega) HN.out z3 m3 x3 HS.out)
        go_wp2_with fail
        refine C2.out.mono ?_
        rintro e w22 ⟨rfl, hb⟩
        have HB22 := Lib.hid (HB21.out.trans (hb.mono HB21.out.size))
        clear hb HB21 HL21 C2 HS HN
        go_wp2_with fail
        go_ret
        exact ⟨rfl, HB22.out⟩
    · have hl9 : (2 : Int) ≤ (Ln : Int) := by omega
      obtain rfl : q1 = 3 := by rw [← HL6.out.len]; exact htri.1
      subst hLa
      have HE : Hid (∀ k, k < Ln → ∃ j : Nat, j < 3 ∧ w6.cell? ((⟨ga, 0, none⟩ : Addr).add k) = some (.int .i64 j) ∧ ((agr L1 z1).getD k 0).toNat = j) := Lib.hid (fun k hk => by
        obtain ⟨j, hj, e⟩ := agr_at (zs := L1) (q := z1) (k := k) (by rw [HLn.out]; exact hk)
        obtain ⟨a, ha, -, e1⟩ := HG6.out.at hk
        injection ha with ha; subst ha
        rw [e] at e1
        exact ⟨j, hj, e1, by rw [e]; rfl⟩)
      have HT : Hid (∀ j, j < 3 → w6.cell? ((⟨g1, 0, none⟩ : Addr).add j) = some (.int .i64 (L1.getD j 0))) := Lib.hid (fun j hj => by
        obtain ⟨a, ha, -, e1⟩ := HL6.out.at hj
        injection ha with ha; subst ha
        exact e1)
      have HW : Hid (∀ lo hi, (∀ j, j < Ln → lo ≤ L1.getD ((agr L1 z1).getD j 0).toNat 0 ∧ L1.getD ((agr L1 z1).getD j 0).toNat 0 ≤ hi) → lo ≤ m ∧ m ≤ hi) := Lib.hid (fun lo hi h => vot_between HV.out (by rw [HLn.out]; exact h))
      obtain ⟨j0, hj0, e0, -⟩ := HE.out 0 (by omega)
      have d0 := HT.out j0 hj0
      generalize L1.getD j0 0 = r0 at d0
      rw [show (⟨ga, 0, none⟩ : Addr).add 0 = ⟨ga, 0, none⟩ from rfl] at e0
      have E0 := fun (d : Nat) (os : Array Obj) => cell_regrown e0 d os
      have D0 := fun (d : Nat) (os : Array Obj) => cell_regrown d0 d os
      have D1 := D0
      rw [addZ] at d0
      simp only [addZ] at D1
      have hi0 : (0 : Int) ≤ (j0 : Int) := by omega
      have hi1 : (j0 : Int) < 3 := by omega
      have HZ := Lib.hid (Below.refl w6.heap.size w6)
      clear HL6 HG6 HV HLn e0 d0 htri
      go_wp2_with fail
      refine wp_region_quiet_below (by kernel_rfl) (by kernel_rfl) ?_
      repeat (go_big_quiet_step (first | fail))
      refine wpQuiet_nil ?_
      intro _ hw'
      obtain ⟨⟨dq, osq⟩, hw''⟩ := hw'
      subst hw''
      have HZ1 := Lib.hid (HZ.out.trans ((below_regrown w6 dq osq).mono HZ.out.size))
      have HE7 : Hid (∀ k, k < Ln → ∃ j : Nat, j < 3 ∧ (Go.Sort.grow (redrawn w6 dq) osq).cell? ((⟨ga, 0, none⟩ : Addr).add k) = some (.int .i64 j) ∧ ((agr L1 z1).getD k 0).toNat = j) := Lib.hid (fun k hk => let ⟨j, h1, h2, h3⟩ := HE.out k hk; ⟨j, h1, cell_regrown h2 dq osq, h3⟩)
      have HT7 : Hid (∀ j, j < 3 → (Go.Sort.grow (redrawn w6 dq) osq).cell? ((⟨g1, 0, none⟩ : Addr).add j) = some (.int .i64 (L1.getD j 0))) := Lib.hid (fun j hj => cell_regrown (HT.out j hj) dq osq)
      have HBZ := Lib.hid (HB6.out.trans (HZ1.out.mono HB6.out.size))
      generalize Go.Sort.grow (redrawn w6 dq) osq = W7 at HBZ HE7 HT7 ⊢
      clear E0 D0 D1 HZ HZ1 HE HT HB6
      go_wp2_with fail
      go_loop [13, 14, 15, 16] (fun lo hi i x => ∃ (k : Nat) (lo' hi' : Int), k ≤ Ln ∧ lo = .int .i64 lo' ∧ hi = .int .i64 hi' ∧ i = .int .i64 k ∧ Hid (∀ j, j < k → lo' ≤ L1.getD ((agr L1 z1).getD j 0).toNat 0 ∧ L1.getD ((agr L1 z1).getD j 0).toNat 0 ≤ hi')) (fun _ _ i _ => Ln - (intOf i).toNat)
      case atStart => exact ⟨0, r0, r0, Nat.zero_le _, rfl, rfl, rfl, Lib.hid (fun j hj => absurd hj (by omega))⟩
      case round =>
        obtain ⟨k, lo, hi, hk, rfl, rfl, rfl, hw⟩ := hrel
        by_cases hlt : k < Ln
        · obtain ⟨j, hj3, e1, ej⟩ := HE7.out k hlt
          have d1 := HT7.out j hj3
          have HN : Hid (∀ lo2 hi2, lo2 ≤ lo → hi ≤ hi2 → lo2 ≤ L1.getD j 0 → L1.getD j 0 ≤ hi2 → ∀ i, i < k + 1 → lo2 ≤ L1.getD ((agr L1 z1).getD i 0).toNat 0 ∧ L1.getD ((agr L1 z1).getD i 0).toNat 0 ≤ hi2) := Lib.hid (fun lo2 hi2 h1 h2 h3 h4 i hi => by
            rcases Nat.lt_succ_iff_lt_or_eq.1 hi with h | rfl
            · have := hw.out i h
              omega
            · rw [ej]; exact ⟨h3, h4⟩)
          generalize L1.getD j 0 = r at d1 HN
          have e1' := e1
          have d1' := d1
          rw [addZ] at e1' d1'
          have hk0 : (0 : Int) ≤ (k : Int) := by omega
          have hk1 : (k : Int) < (Ln : Int) := by omega
          have hj0 : (0 : Int) ≤ (j : Int) := by omega
          have hj1 : (j : Int) < 3 := by omega
          clear HE7 HT7 HW hw ej
          by_cases hlo : r < lo
          · by_cases hhi : hi < r
            · go_wp2_with fail
              go_round
              case rel => exact ⟨k + 1, r, r, by omega, rfl, rfl, by go_num, Lib.hid (HN.out _ _ (by omega) (by omega) (by omega) (by omega))⟩
              case measure => simp [intOf]; omega
            · go_wp2_with fail
              go_round
              case rel => exact ⟨k + 1, r, hi, by omega, rfl, rfl, by go_num, Lib.hid (HN.out _ _ (by omega) (by omega) (by omega) (by omega))⟩
              case measure => simp [intOf]; omega
          · by_cases hhi : hi < r
            · go_wp2_with fail
              go_round
              case rel => exact ⟨k + 1, lo, r, by omega, rfl, rfl, by go_num, Lib.hid (HN.out _ _ (by omega) (by omega) (by omega) (by omega))⟩
              case measure => simp [intOf]; omega
            · go_wp2_with fail
              go_round
              case rel => exact ⟨k + 1, lo, hi, by omega, rfl, rfl, by go_num, Lib.hid (HN.out _ _ (by omega) (by omega) (by omega) (by omega))⟩
              case measure => simp [intOf]; omega
        · obtain rfl : k = Ln := by omega
          have hbt := HW.out lo hi hw.out
          have h91 : ¬ m < lo := by omega
          have h92 : ¬ hi < m := by omega
          clear HE7 HT7 HW hw hbt
          -- the drawn triple whose median is asked
          have D2 := Lib.hid (drawMed_any c (HC.out.on HBZ.out))
          go_wp2_with fail
          refine D2.out.mono ?_
          rintro e w7 ⟨g2, c2, q2, L2, rfl, hq2, hqc2, hL2, hb⟩
          have HB7 := Lib.hid (HBZ.out.trans (hb.mono HBZ.out.size))
          have HL := Lib.hid hL2
          clear hb D2 HBZ hL2
          obtain ⟨m2, x2, hM⟩ := medA_ex L2
          have HM := Lib.hid hM
          have C1 := Lib.hid (medIm_any (some ⟨g2, 0, none⟩) q2 c2 _ L2 m2 x2 hM w7 HL.out.len (by omega) HL.out.low HL.out.has)
          have hmm2 : (m2 != m2) = false := by simp
          have hxx2 : (x2 != x2) = false := by simp
          clear hM
          go_wp2_with fail
          refine C1.out.mono ?_
          rintro e w8 ⟨rfl, hb⟩
          have HB8 := Lib.hid (HB7.out.trans (hb.mono HB7.out.size))
          have HL8 := Lib.hid (HL.out.below hb HL.out.low)
          clear hb HB7 HL C1
          have C2 := Lib.hid (medSp_any (some ⟨g2, 0, none⟩) q2 c2 _ L2 m2 x2 HM.out w8 HL8.out.len (by omega) HL8.out.low HL8.out.has)
          go_wp2_with fail
          refine C2.out.mono ?_
          rintro e w9 ⟨rfl, hb⟩
          have HB9 := Lib.hid (HB8.out.trans (hb.mono HB8.out.size))
          have HL9 := Lib.hid (HL8.out.below hb HL8.out.low)
          clear hb HB8 HL8 C2
          cases x2 with
          | false =>
            clear HM HL9
            -- the drawn triples among which one may be suspect
            have D3 := Lib.hid (drawSus_any c (HC.out.on HB9.out))
            clear HC
            go_wp2_with fail
            refine D3.out.mono ?_
            rintro e w20 ⟨g3, c3, q3, vs, z3, rfl, hq3, hn4, hvs, hb⟩
            have HB20 := Lib.hid (HB9.out.trans (hb.mono HB9.out.size))
            have HL := Lib.hid hvs
            clear hb D3 HB9 hvs
            obtain ⟨m3, x3, hS⟩ := susA_ex (tss vs) z3
            have hn9 : ∀ k, k < q3 → (vs.getD k noSl).n ≤ 1048576 := fun k hk => by have := hn4 k hk; omega
            have HS := Lib.hid hS
            have HN := Lib.hid hn9
            have C1 := Lib.hid (susI_any c3 HL.out (by omega) hn9 z3 m3 x3 hS)
            have hmm3 : (m3 == m3) = true := by simp
            have hxx3 : (x3 == x3) = true := by simp
            clear hS hn9 hn4
            go_wp2_with fail
            refine C1.out.mono ?_
            rintro e w21 ⟨rfl, hb⟩
            have HB21 := Lib.hid (HB20.out.trans (hb.mono HB20.out.size))
            have HL21 := Lib.hid (HL.out.below hb HL.out.low)
            clear hb HB20 HL C1
            have C2 := Lib.hid (susS_any c3 HL21.out (by omega) HN.out z3 m3 x3 HS.out)
            go_wp2_with fail
            refine C2.out.mono ?_
            rintro e w22 ⟨rfl, hb⟩
            have HB22 := Lib.hid (HB21.out.trans (hb.mono HB21.out.size))
            clear hb HB21 HL21 C2 HS HN
            go_wp2_with fail
            go_ret
            exact ⟨rfl, HB22.out⟩
          | true =>
            obtain ⟨ht, hmem, hA1, hA2⟩ := med_mix HM.out
            obtain rfl : q2 = 3 := by rw [← HL9.out.len]; exact ht.1
            obtain ⟨za, zb, zc, rfl, -⟩ := triS_three ht
            have HMem := Lib.hid hmem
            have HA1 : Hid (MedA [zc, za, zb] m2 true) := Lib.hid hA1
            have HA2 : Hid (MedA [zb, za, zc] m2 true) := Lib.hid hA2
            clear hmem hA1 hA2 ht HM
            go_wp2_with fail
            refine region_inv (by kernel_rfl) (by kernel_rfl) (fun Fl9 ac W => ∃ (x154 x155 x156 x157 x158 x159 x160 x161 x162 x163 x164 x153 x165 x166 x22 x23 : Value), ac = { tmps := #[Value.slice A n c, undef, Value.bool false, Value.slice (some ⟨g1, 0, none⟩) 3 c1, Value.int IntKind.i64 z1, Value.int IntKind.i64 m, Value.bool true, Value.int IntKind.i64 m, Value.bool true, Value.slice (some ⟨ga, 0, none⟩) k ca, Value.bool true, Value.slice (some ⟨gw, 0, none⟩) k cw, Value.bool true, Value.int IntKind.i64 lo, Value.int IntKind.i64 hi, Value.int IntKind.i64 (k : Int), u16, Value.slice (some ⟨g2, 0, none⟩) 3 c2, Value.int IntKind.i64 m2, Value.bool true, Value.int IntKind.i64 m2, Value.bool true, x22, x23, undef, undef, undef, undef, undef, undef, undef, undef, Value.slice A n c, Value.bool false, Value.tuple #[Value.slice (some ⟨g1, 0, none⟩) 3 c1, Value.int IntKind.i64 z1], Value.slice A n c, Value.tuple #[Value.slice (some ⟨g1, 0, none⟩) 3 c1, Value.int IntKind.i64 z1], Value.slice (some ⟨g1, 0, none⟩) 3 c1, Value.int IntKind.i64 z1, Value.tuple #[Value.int IntKind.i64 m, Value.bool true], Value.slice (some ⟨g1, 0, none⟩) 3 c1, Value.int IntKind.i64 z1, Value.tuple #[Value.int IntKind.i64 m, Value.bool true], Value.int IntKind.i64 m, Value.bool true, Value.tuple #[Value.int IntKind.i64 m, Value.bool true], Value.slice (some ⟨g1, 0, none⟩) 3 c1, Value.int IntKind.i64 z1, Value.tuple #[Value.int IntKind.i64 m, Value.bool true], Value.int IntKind.i64 m, Value.bool true, Value.int IntKind.i64 m, Value.int IntKind.i64 m, Value.bool false, Value.bool false, Value.bool true, Value.bool true, Value.bool false, Value.bool false, Value.tuple #[Value.slice (some ⟨ga, 0, none⟩) k ca, Value.bool true], Value.slice (some ⟨g1, 0, none⟩) 3 c1, Value.int IntKind.i64 z1, Value.tuple #[Value.slice (some ⟨ga, 0, none⟩) k ca, Value.bool true], Value.slice (some ⟨ga, 0, none⟩) k ca, Value.bool true, Value.tuple #[Value.slice (some ⟨gw, 0, none⟩) k cw, Value.bool true], Value.slice (some ⟨g1, 0, none⟩) 3 c1, Value.int IntKind.i64 z1, Value.tuple #[Value.slice (some ⟨gw, 0, none⟩) k cw, Value.bool true], Value.slice (some ⟨gw, 0, none⟩) k cw, Value.bool true, Value.bool true, Value.bool true, Value.bool false, Value.bool false, Value.slice (some ⟨ga, 0, none⟩) k ca, Value.slice (some ⟨gw, 0, none⟩) k cw, Value.bool true, Value.bool false, Value.bool false, Value.bool false, Value.bool true, Value.bool true, Value.bool true, Value.slice (some ⟨ga, 0, none⟩) k ca, Value.int IntKind.i64 (k : Int), Value.bool true, Value.bool false, Value.bool false, Value.bool false, Value.bool true, Value.slice (some ⟨g1, 0, none⟩) 3 c1, Value.slice (some ⟨ga, 0, none⟩) k ca, Value.pointer (some ⟨ga, 0, none⟩), Value.int IntKind.i64 (j0 : Int), Value.pointer (some ⟨g1, j0, none⟩), Value.int IntKind.i64 r0, Value.slice (some ⟨g1, 0, none⟩) 3 c1, Value.slice (some ⟨ga, 0, none⟩) k ca, Value.pointer (some ⟨ga, 0, none⟩), Value.int IntKind.i64 (j0 : Int), Value.pointer (some ⟨g1, j0, none⟩), Value.int IntKind.i64 r0, Value.int IntKind.i64 (k : Int), Value.slice (some ⟨ga, 0, none⟩) k ca, Value.int IntKind.i64 (k : Int), Value.bool false, u107, u108, u109, u110, u111, u112, u113, u114, u115, u116, u117, u118, u119, u120, u121, u122, u123, Value.int IntKind.i64 m, Value.int IntKind.i64 lo, Value.bool false, Value.bool false, Value.int IntKind.i64 m, Value.int IntKind.i64 hi, Value.bool false, Value.bool false, Value.slice A n c, Value.slice (some ⟨g2, 0, none⟩) 3 c2, Value.tuple #[Value.int IntKind.i64 m2, Value.bool true], Value.slice (some ⟨g2, 0, none⟩) 3 c2, Value.tuple #[Value.int IntKind.i64 m2, Value.bool true], Value.int IntKind.i64 m2, Value.bool true, Value.tuple #[Value.int IntKind.i64 m2, Value.bool true], Value.slice (some ⟨g2, 0, none⟩) 3 c2, Value.tuple #[Value.int IntKind.i64 m2, Value.bool true], Value.int IntKind.i64 m2, Value.bool true, Value.int IntKind.i64 m2, Value.int IntKind.i64 m2, Value.bool false, Value.bool false, Value.bool true, Value.bool true, Value.bool false, Value.bool false, Value.bool true, x153, x154, x155, x156, x157, x158, x159, x160, x161, x162, x163, x164, x165, x166, undef, undef, undef, undef, undef, undef, undef, undef, undef, undef, undef, undef, undef, undef, undef, undef, undef, undef, undef, undef, undef, undef, undef, undef, undef, undef, undef, undef, undef, undef, undef, undef, undef, undef, undef, undef, undef, undef, undef, undef, undef, undef, undef, undef, undef, undef, undef, undef, undef, undef, undef, undef, undef, undef, undef, undef, undef, undef, undef, undef, undef], defers := [] } ∧ Below w9.heap.size w9 W ∧
                  (Fl9 0 = true → x154 = .slice (some ⟨g2, 0, none⟩) 3 c2) ∧
                  (Fl9 1 = true → x155 = .pointer (some ⟨g2, 2, none⟩)) ∧
                  (Fl9 2 = true → x156 = .int .i64 zc) ∧
                  (Fl9 3 = true → x157 = .slice (some ⟨g2, 0, none⟩) 3 c2) ∧
                  (Fl9 4 = true → x158 = .pointer (some ⟨g2, 0, none⟩)) ∧
                  (Fl9 5 = true → x159 = .int .i64 za) ∧
                  (Fl9 6 = true → x160 = .slice (some ⟨g2, 0, none⟩) 3 c2) ∧
                  (Fl9 7 = true → x161 = .pointer (some ⟨g2, 1, none⟩)) ∧
                  (Fl9 8 = true → x162 = .int .i64 zb) ∧
                  (Fl9 9 = true → ∃ g B, x163 = .slice (some ⟨g, 0, none⟩) 3 3 ∧ IsI6 W B (some ⟨g, 0, none⟩) 3 [zc, za, zb]) ∧
                  (Fl9 10 = true → x164 = .tuple #[.int .i64 m2, .bool true]) ∧
                  (Fl9 11 = true → x153 = .tuple #[.int .i64 m2, .bool true]) ∧
                  (Fl9 12 = true → x165 = .int .i64 m2) ∧
                  (Fl9 13 = true → x166 = .bool true) ∧
                  (Fl9 14 = true → x22 = .int .i64 m2) ∧
                  (Fl9 15 = true → x23 = .bool true)) ?_ ?_ ?_
            · exact ⟨_, _, _, _, _, _, _, _, _, _, _, _, _, _, _, _, rfl, (Drawn.one w9 1).below _, (fun q0 => nomatch q0), (fun q0 => nomatch q0), (fun q0 => nomatch q0), (fun q0 => nomatch q0), (fun q0 => nomatch q0), (fun q0 => nomatch q0), (fun q0 => nomatch q0), (fun q0 => nomatch q0), (fun q0 => nomatch q0), (fun q0 => nomatch q0), (fun q0 => nomatch q0), (fun q0 => nomatch q0), (fun q0 => nomatch q0), (fun q0 => nomatch q0), (fun q0 => nomatch q0), (fun q0 => nomatch q0)⟩
            · intro Fl9 ac W i9 o9 hJ ho hL hdep K9 hK
              obtain ⟨x154, x155, x156, x157, x158, x159, x160, x161, x162, x163, x164, x153, x165, x166, x22, x23, rfl, hB, hh0, hh1, hh2, hh3, hh4, hh5, hh6, hh7, hh8, hh9, hh10, hh11, hh12, hh13, hh14, hh15⟩ := hJ
              have hi9 : i9 < 16 := by simpa using (Array.getElem?_eq_some_iff.1 ho).1
              have QW := three6 (HL9.out.below hB HL9.out.low)
              obtain ⟨C0, C1, C2⟩ := QW
              obtain rfl | rfl | rfl | rfl | rfl | rfl | rfl | rfl | rfl | rfl | rfl | rfl | rfl | rfl | rfl | rfl : i9 = 0 ∨ i9 = 1 ∨ i9 = 2 ∨ i9 = 3 ∨ i9 = 4 ∨ i9 = 5 ∨ i9 = 6 ∨ i9 = 7 ∨ i9 = 8 ∨ i9 = 9 ∨ i9 = 10 ∨ i9 = 11 ∨ i9 = 12 ∨ i9 = 13 ∨ i9 = 14 ∨ i9 = 15 := by omega
              · -- operation 0
                cases ho
                go_simp
                exact hK _ _ ⟨_, _, _, _, _, _, _, _, _, _, _, _, _, _, _, _, rfl, hB, fun _ => rfl, hh1, hh2, hh3, hh4, hh5, hh6, hh7, hh8, hh9, hh10, hh11, hh12, hh13, hh14, hh15⟩
              · -- operation 1
                cases ho
                obtain rfl := hh0 (hdep ⟨0, .data⟩ (by simp) rfl)
                go_simp
                exact hK _ _ ⟨_, _, _, _, _, _, _, _, _, _, _, _, _, _, _, _, rfl, hB, hh0, fun _ => rfl, hh2, hh3, hh4, hh5, hh6, hh7, hh8, hh9, hh10, hh11, hh12, hh13, hh14, hh15⟩
              · -- operation 2
                cases ho
                obtain rfl := hh1 (hdep ⟨1, .data⟩ (by simp) rfl)
                go_simp
                exact hK _ _ ⟨_, _, _, _, _, _, _, _, _, _, _, _, _, _, _, _, rfl, hB, hh0, hh1, fun _ => rfl, hh3, hh4, hh5, hh6, hh7, hh8, hh9, hh10, hh11, hh12, hh13, hh14, hh15⟩
              · -- operation 3
                cases ho
                go_simp
                exact hK _ _ ⟨_, _, _, _, _, _, _, _, _, _, _, _, _, _, _, _, rfl, hB, hh0, hh1, hh2, fun _ => rfl, hh4, hh5, hh6, hh7, hh8, hh9, hh10, hh11, hh12, hh13, hh14, hh15⟩
              · -- operation 4
                cases ho
                obtain rfl := hh3 (hdep ⟨3, .data⟩ (by simp) rfl)
                go_simp
                exact hK _ _ ⟨_, _, _, _, _, _, _, _, _, _, _, _, _, _, _, _, rfl, hB, hh0, hh1, hh2, hh3, fun _ => rfl, hh5, hh6, hh7, hh8, hh9, hh10, hh11, hh12, hh13, hh14, hh15⟩
              · -- operation 5
                cases ho
                obtain rfl := hh4 (hdep ⟨4, .data⟩ (by simp) rfl)
                go_simp
                exact hK _ _ ⟨_, _, _, _, _, _, _, _, _, _, _, _, _, _, _, _, rfl, hB, hh0, hh1, hh2, hh3, hh4, fun _ => rfl, hh6, hh7, hh8, hh9, hh10, hh11, hh12, hh13, hh14, hh15⟩
              · -- operation 6
                cases ho
                go_simp
                exact hK _ _ ⟨_, _, _, _, _, _, _, _, _, _, _, _, _, _, _, _, rfl, hB, hh0, hh1, hh2, hh3, hh4, hh5, fun _ => rfl, hh7, hh8, hh9, hh10, hh11, hh12, hh13, hh14, hh15⟩
              · -- operation 7
                cases ho
                obtain rfl := hh6 (hdep ⟨6, .data⟩ (by simp) rfl)
                go_simp
                exact hK _ _ ⟨_, _, _, _, _, _, _, _, _, _, _, _, _, _, _, _, rfl, hB, hh0, hh1, hh2, hh3, hh4, hh5, hh6, fun _ => rfl, hh8, hh9, hh10, hh11, hh12, hh13, hh14, hh15⟩
              · -- operation 8
                cases ho
                obtain rfl := hh7 (hdep ⟨7, .data⟩ (by simp) rfl)
                go_simp
                exact hK _ _ ⟨_, _, _, _, _, _, _, _, _, _, _, _, _, _, _, _, rfl, hB, hh0, hh1, hh2, hh3, hh4, hh5, hh6, hh7, fun _ => rfl, hh9, hh10, hh11, hh12, hh13, hh14, hh15⟩
              · -- operation 9
                cases ho
                obtain rfl := hh2 (hdep ⟨2, .data⟩ (by simp) rfl)
                obtain rfl := hh5 (hdep ⟨5, .data⟩ (by simp) rfl)
                obtain rfl := hh8 (hdep ⟨8, .data⟩ (by simp) rfl)
                go_simp
                exact hK _ _ ⟨_, _, _, _, _, _, _, _, _, _, _, _, _, _, _, _, rfl, hB.trans ((Below.alloc (Below.refl W.heap.size W) (Nat.le_refl _) _).mono hB.size), hh0, hh1, hh2, hh3, hh4, hh5, hh6, hh7, hh8, fun _ => ⟨_, _, rfl, isI_new W _ _ _⟩, hh10, hh11, hh12, hh13, hh14, hh15⟩
              · -- operation 10
                cases ho
                have hd9 := hdep ⟨9, .data⟩ (by simp) rfl
                obtain ⟨g9, B9, rfl, hI9⟩ := hh9 hd9
                go_simp
                refine (medIm_any (some ⟨g9, 0, none⟩) 3 3 B9 _ m2 true HA1.out W rfl (by omega) hI9.low hI9.has).mono ?_
                rintro e w9x ⟨rfl, hb9⟩
                exact hK _ _ ⟨_, _, _, _, _, _, _, _, _, _, _, _, _, _, _, _, rfl, hB.trans (hb9.mono hB.size), hh0, hh1, hh2, hh3, hh4, hh5, hh6, hh7, hh8, fun q0 => (fun ⟨g, B, e, h⟩ => ⟨g, B, e, h.below hb9 h.low⟩) (hh9 q0), fun _ => rfl, hh11, hh12, hh13, hh14, hh15⟩
              · -- operation 11
                cases ho
                have hd10 := hdep ⟨10, .data⟩ (by simp) rfl
                obtain rfl := hh10 hd10
                go_simp
                exact hK _ _ ⟨_, _, _, _, _, _, _, _, _, _, _, _, _, _, _, _, rfl, hB, hh0, hh1, hh2, hh3, hh4, hh5, hh6, hh7, hh8, hh9, hh10, fun _ => rfl, hh12, hh13, hh14, hh15⟩
              · -- operation 12
                cases ho
                obtain rfl := hh11 (hdep ⟨11, .data⟩ (by simp) rfl)
                go_simp
                exact hK _ _ ⟨_, _, _, _, _, _, _, _, _, _, _, _, _, _, _, _, rfl, hB, hh0, hh1, hh2, hh3, hh4, hh5, hh6, hh7, hh8, hh9, hh10, hh11, fun _ => rfl, hh13, hh14, hh15⟩
              · -- operation 13
                cases ho
                obtain rfl := hh11 (hdep ⟨11, .data⟩ (by simp) rfl)
                go_simp
                exact hK _ _ ⟨_, _, _, _, _, _, _, _, _, _, _, _, _, _, _, _, rfl, hB, hh0, hh1, hh2, hh3, hh4, hh5, hh6, hh7, hh8, hh9, hh10, hh11, hh12, fun _ => rfl, hh14, hh15⟩
              · -- operation 14
                cases ho
                obtain rfl := hh12 (hdep ⟨12, .data⟩ (by simp) rfl)
                go_simp
                exact hK _ _ ⟨_, _, _, _, _, _, _, _, _, _, _, _, _, _, _, _, rfl, hB, hh0, hh1, hh2, hh3, hh4, hh5, hh6, hh7, hh8, hh9, hh10, hh11, hh12, hh13, fun _ => rfl, hh15⟩
              · -- operation 15
                cases ho
                obtain rfl := hh13 (hdep ⟨13, .data⟩ (by simp) rfl)
                go_simp
                exact hK _ _ ⟨_, _, _, _, _, _, _, _, _, _, _, _, _, _, _, _, rfl, hB, hh0, hh1, hh2, hh3, hh4, hh5, hh6, hh7, hh8, hh9, hh10, hh11, hh12, hh13, hh14, fun _ => rfl⟩
            intro Fl9 ac W hJ hall
            obtain ⟨x154, x155, x156, x157, x158, x159, x160, x161, x162, x163, x164, x153, x165, x166, x22, x23, rfl, hB, hh0, hh1, hh2, hh3, hh4, hh5, hh6, hh7, hh8, hh9, hh10, hh11, hh12, hh13, hh14, hh15⟩ := hJ
            obtain rfl := hh0 (hall 0 (by decide))
            obtain rfl := hh1 (hall 1 (by decide))
            obtain rfl := hh2 (hall 2 (by decide))
            obtain rfl := hh3 (hall 3 (by decide))
            obtain rfl := hh4 (hall 4 (by decide))
            obtain rfl := hh5 (hall 5 (by decide))
            obtain rfl := hh6 (hall 6 (by decide))
            obtain rfl := hh7 (hall 7 (by decide))
            obtain rfl := hh8 (hall 8 (by decide))
            obtain rfl := hh11 (hall 11 (by decide))
            obtain rfl := hh12 (hall 12 (by decide))
            obtain rfl := hh13 (hall 13 (by decide))
            obtain rfl := hh14 (hall 14 (by decide))
            obtain rfl := hh15 (hall 15 (by decide))
            obtain ⟨gz153, Bz153, rfl, -⟩ := hh9 (hall 9 (by decide))
            obtain rfl := hh10 (hall 10 (by decide))
            clear hall
            rename World => W10
            have HB10 := Lib.hid (HB9.out.trans (hB.mono HB9.out.size))
            have HL10 := Lib.hid (HL9.out.below hB HL9.out.low)
            clear hB HB9 HL9 HA1
            go_wp2_with fail
            refine region_inv (by kernel_rfl) (by kernel_rfl) (fun Fl9 ac W => ∃ (x168 x169 x170 x171 x172 x173 x174 x175 x176 x177 x178 x167 x179 x180 x24 x25 : Value), ac = { tmps := #[Value.slice A n c, undef, Value.bool false, Value.slice (some ⟨g1, 0, none⟩) 3 c1, Value.int IntKind.i64 z1, Value.int IntKind.i64 m, Value.bool true, Value.int IntKind.i64 m, Value.bool true, Value.slice (some ⟨ga, 0, none⟩) k ca, Value.bool true, Value.slice (some ⟨gw, 0, none⟩) k cw, Value.bool true, Value.int IntKind.i64 lo, Value.int IntKind.i64 hi, Value.int IntKind.i64 (k : Int), u16, Value.slice (some ⟨g2, 0, none⟩) 3 c2, Value.int IntKind.i64 m2, Value.bool true, Value.int IntKind.i64 m2, Value.bool true, Value.int IntKind.i64 m2, Value.bool true, x24, x25, undef, undef, undef, undef, undef, undef, Value.slice A n c, Value.bool false, Value.tuple #[Value.slice (some ⟨g1, 0, none⟩) 3 c1, Value.int IntKind.i64 z1], Value.slice A n c, Value.tuple #[Value.slice (some ⟨g1, 0, none⟩) 3 c1, Value.int IntKind.i64 z1], Value.slice (some ⟨g1, 0, none⟩) 3 c1, Value.int IntKind.i64 z1, Value.tuple #[Value.int IntKind.i64 m, Value.bool true], Value.slice (some ⟨g1, 0, none⟩) 3 c1, Value.int IntKind.i64 z1, Value.tuple #[Value.int IntKind.i64 m, Value.bool true], Value.int IntKind.i64 m, Value.bool true, Value.tuple #[Value.int IntKind.i64 m, Value.bool true], Value.slice (some ⟨g1, 0, none⟩) 3 c1, Value.int IntKind.i64 z1, Value.tuple #[Value.int IntKind.i64 m, Value.bool true], Value.int IntKind.i64 m, Value.bool true, Value.int IntKind.i64 m, Value.int IntKind.i64 m, Value.bool false, Value.bool false, Value.bool true, Value.bool true, Value.bool false, Value.bool false, Value.tuple #[Value.slice (some ⟨ga, 0, none⟩) k ca, Value.bool true], Value.slice (some ⟨g1, 0, none⟩) 3 c1, Value.int IntKind.i64 z1, Value.tuple #[Value.slice (some ⟨ga, 0, none⟩) k ca, Value.bool true], Value.slice (some ⟨ga, 0, none⟩) k ca, Value.bool true, Value.tuple #[Value.slice (some ⟨gw, 0, none⟩) k cw, Value.bool true], Value.slice (some ⟨g1, 0, none⟩) 3 c1, Value.int IntKind.i64 z1, Value.tuple #[Value.slice (some ⟨gw, 0, none⟩) k cw, Value.bool true], Value.slice (some ⟨gw, 0, none⟩) k cw, Value.bool true, Value.bool true, Value.bool true, Value.bool false, Value.bool false, Value.slice (some ⟨ga, 0, none⟩) k ca, Value.slice (some ⟨gw, 0, none⟩) k cw, Value.bool true, Value.bool false, Value.bool false, Value.bool false, Value.bool true, Value.bool true, Value.bool true, Value.slice (some ⟨ga, 0, none⟩) k ca, Value.int IntKind.i64 (k : Int), Value.bool true, Value.bool false, Value.bool false, Value.bool false, Value.bool true, Value.slice (some ⟨g1, 0, none⟩) 3 c1, Value.slice (some ⟨ga, 0, none⟩) k ca, Value.pointer (some ⟨ga, 0, none⟩), Value.int IntKind.i64 (j0 : Int), Value.pointer (some ⟨g1, j0, none⟩), Value.int IntKind.i64 r0, Value.slice (some ⟨g1, 0, none⟩) 3 c1, Value.slice (some ⟨ga, 0, none⟩) k ca, Value.pointer (some ⟨ga, 0, none⟩), Value.int IntKind.i64 (j0 : Int), Value.pointer (some ⟨g1, j0, none⟩), Value.int IntKind.i64 r0, Value.int IntKind.i64 (k : Int), Value.slice (some ⟨ga, 0, none⟩) k ca, Value.int IntKind.i64 (k : Int), Value.bool false, u107, u108, u109, u110, u111, u112, u113, u114, u115, u116, u117, u118, u119, u120, u121, u122, u123, Value.int IntKind.i64 m, Value.int IntKind.i64 lo, Value.bool false, Value.bool false, Value.int IntKind.i64 m, Value.int IntKind.i64 hi, Value.bool false, Value.bool false, Value.slice A n c, Value.slice (some ⟨g2, 0, none⟩) 3 c2, Value.tuple #[Value.int IntKind.i64 m2, Value.bool true], Value.slice (some ⟨g2, 0, none⟩) 3 c2, Value.tuple #[Value.int IntKind.i64 m2, Value.bool true], Value.int IntKind.i64 m2, Value.bool true, Value.tuple #[Value.int IntKind.i64 m2, Value.bool true], Value.slice (some ⟨g2, 0, none⟩) 3 c2, Value.tuple #[Value.int IntKind.i64 m2, Value.bool true], Value.int IntKind.i64 m2, Value.bool true, Value.int IntKind.i64 m2, Value.int IntKind.i64 m2, Value.bool false, Value.bool false, Value.bool true, Value.bool true, Value.bool false, Value.bool false, Value.bool true, Value.tuple #[Value.int IntKind.i64 m2, Value.bool true], Value.slice (some ⟨g2, 0, none⟩) 3 c2, Value.pointer (some ⟨g2, 2, none⟩), Value.int IntKind.i64 zc, Value.slice (some ⟨g2, 0, none⟩) 3 c2, Value.pointer (some ⟨g2, 0, none⟩), Value.int IntKind.i64 za, Value.slice (some ⟨g2, 0, none⟩) 3 c2, Value.pointer (some ⟨g2, 1, none⟩), Value.int IntKind.i64 zb, Value.slice (some ⟨gz153, 0, none⟩) 3 3, Value.tuple #[Value.int IntKind.i64 m2, Value.bool true], Value.int IntKind.i64 m2, Value.bool true, x167, x168, x169, x170, x171, x172, x173, x174, x175, x176, x177, x178, x179, x180, undef, undef, undef, undef, undef, undef, undef, undef, undef, undef, undef, undef, undef, undef, undef, undef, undef, undef, undef, undef, undef, undef, undef, undef, undef, undef, undef, undef, undef, undef, undef, undef, undef, undef, undef, undef, undef, undef, undef, undef, undef, undef, undef, undef, undef, undef, undef], defers := [] } ∧ Below W10.heap.size W10 W ∧
                  (Fl9 0 = true → x168 = .slice (some ⟨g2, 0, none⟩) 3 c2) ∧
                  (Fl9 1 = true → x169 = .pointer (some ⟨g2, 1, none⟩)) ∧
                  (Fl9 2 = true → x170 = .int .i64 zb) ∧
                  (Fl9 3 = true → x171 = .slice (some ⟨g2, 0, none⟩) 3 c2) ∧
                  (Fl9 4 = true → x172 = .pointer (some ⟨g2, 0, none⟩)) ∧
                  (Fl9 5 = true → x173 = .int .i64 za) ∧
                  (Fl9 6 = true → x174 = .slice (some ⟨g2, 0, none⟩) 3 c2) ∧
                  (Fl9 7 = true → x175 = .pointer (some ⟨g2, 2, none⟩)) ∧
                  (Fl9 8 = true → x176 = .int .i64 zc) ∧
                  (Fl9 9 = true → ∃ g B, x177 = .slice (some ⟨g, 0, none⟩) 3 3 ∧ IsI6 W B (some ⟨g, 0, none⟩) 3 [zb, za, zc]) ∧
                  (Fl9 10 = true → x178 = .tuple #[.int .i64 m2, .bool true]) ∧
                  (Fl9 11 = true → x167 = .tuple #[.int .i64 m2, .bool true]) ∧
                  (Fl9 12 = true → x179 = .int .i64 m2) ∧
                  (Fl9 13 = true → x180 = .bool true) ∧
                  (Fl9 14 = true → x24 = .int .i64 m2) ∧
                  (Fl9 15 = true → x25 = .bool true)) ?_ ?_ ?_
            · exact ⟨_, _, _, _, _, _, _, _, _, _, _, _, _, _, _, _, rfl, (Drawn.one W10 1).below _, (fun q0 => nomatch q0), (fun q0 => nomatch q0), (fun q0 => nomatch q0), (fun q0 => nomatch q0), (fun q0 => nomatch q0), (fun q0 => nomatch q0), (fun q0 => nomatch q0), (fun q0 => nomatch q0), (fun q0 => nomatch q0), (fun q0 => nomatch q0), (fun q0 => nomatch q0), (fun q0 => nomatch q0), (fun q0 => nomatch q0), (fun q0 => nomatch q0), (fun q0 => nomatch q0), (fun q0 => nomatch q0)⟩
            · intro Fl9 ac W i9 o9 hJ ho hL hdep K9 hK
              obtain ⟨x168, x169, x170, x171, x172, x173, x174, x175, x176, x177, x178, x167, x179, x180, x24, x25, rfl, hB, hh0, hh1, hh2, hh3, hh4, hh5, hh6, hh7, hh8, hh9, hh10, hh11, hh12, hh13, hh14, hh15⟩ := hJ
              have hi9 : i9 < 16 := by simpa using (Array.getElem?_eq_some_iff.1 ho).1
              have QW := three6 (HL10.out.below hB HL10.out.low)
              obtain ⟨C0, C1, C2⟩ := QW
              obtain rfl | rfl | rfl | rfl | rfl | rfl | rfl | rfl | rfl | rfl | rfl | rfl | rfl | rfl | rfl | rfl : i9 = 0 ∨ i9 = 1 ∨ i9 = 2 ∨ i9 = 3 ∨ i9 = 4 ∨ i9 = 5 ∨ i9 = 6 ∨ i9 = 7 ∨ i9 = 8 ∨ i9 = 9 ∨ i9 = 10 ∨ i9 = 11 ∨ i9 = 12 ∨ i9 = 13 ∨ i9 = 14 ∨ i9 = 15 := by omega
              · -- operation 0
                cases ho
                go_simp
                exact hK _ _ ⟨_, _, _, _, _, _, _, _, _, _, _, _, _, _, _, _, rfl, hB, fun _ => rfl, hh1, hh2, hh3, hh4, hh5, hh6, hh7, hh8, hh9, hh10, hh11, hh12, hh13, hh14, hh15⟩
              · -- operation 1
                cases ho
                obtain rfl := hh0 (hdep ⟨0, .data⟩ (by simp) rfl)
                go_simp
                exact hK _ _ ⟨_, _, _, _, _, _, _, _, _, _, _, _, _, _, _, _, rfl, hB, hh0, fun _ => rfl, hh2, hh3, hh4, hh5, hh6, hh7, hh8, hh9, hh10, hh11, hh12, hh13, hh14, hh15⟩
              · -- operation 2
                cases ho
                obtain rfl := hh1 (hdep ⟨1, .data⟩ (by simp) rfl)
                go_simp
                exact hK _ _ ⟨_, _, _, _, _, _, _, _, _, _, _, _, _, _, _, _, rfl, hB, hh0, hh1, fun _ => rfl, hh3, hh4, hh5, hh6, hh7, hh8, hh9, hh10, hh11, hh12, hh13, hh14, hh15⟩
              · -- operation 3
                cases ho
                go_simp
                exact hK _ _ ⟨_, _, _, _, _, _, _, _, _, _, _, _, _, _, _, _, rfl, hB, hh0, hh1, hh2, fun _ => rfl, hh4, hh5, hh6, hh7, hh8, hh9, hh10, hh11, hh12, hh13, hh14, hh15⟩
              · -- operation 4
                cases ho
                obtain rfl := hh3 (hdep ⟨3, .data⟩ (by simp) rfl)
                go_simp
                exact hK _ _ ⟨_, _, _, _, _, _, _, _, _, _, _, _, _, _, _, _, rfl, hB, hh0, hh1, hh2, hh3, fun _ => rfl, hh5, hh6, hh7, hh8, hh9, hh10, hh11, hh12, hh13, hh14, hh15⟩
              · -- operation 5
                cases ho
                obtain rfl := hh4 (hdep ⟨4, .data⟩ (by simp) rfl)
                go_simp
                exact hK _ _ ⟨_, _, _, _, _, _, _, _, _, _, _, _, _, _, _, _, rfl, hB, hh0, hh1, hh2, hh3, hh4, fun _ => rfl, hh6, hh7, hh8, hh9, hh10, hh11, hh12, hh13, hh14, hh15⟩
              · -- operation 6
                cases ho
                go_simp
                exact hK _ _ ⟨_, _, _, _, _, _, _, _, _, _, _, _, _, _, _, _, rfl, hB, hh0, hh1, hh2, hh3, hh4, hh5, fun _ => rfl, hh7, hh8, hh9, hh10, hh11, hh12, hh13, hh14, hh15⟩
              · -- operation 7
                cases ho
                obtain rfl := hh6 (hdep ⟨6, .data⟩ (by simp) rfl)
                go_simp
                exact hK _ _ ⟨_, _, _, _, _, _, _, _, _, _, _, _, _, _, _, _, rfl, hB, hh0, hh1, hh2, hh3, hh4, hh5, hh6, fun _ => rfl, hh8, hh9, hh10, hh11, hh12, hh13, hh14, hh15⟩
              · -- operation 8
                cases ho
                obtain rfl := hh7 (hdep ⟨7, .data⟩ (by simp) rfl)
                go_simp
                exact hK _ _ ⟨_, _, _, _, _, _, _, _, _, _, _, _, _, _, _, _, rfl, hB, hh0, hh1, hh2, hh3, hh4, hh5, hh6, hh7, fun _ => rfl, hh9, hh10, hh11, hh12, hh13, hh14, hh15⟩
              · -- operation 9
                cases ho
                obtain rfl := hh2 (hdep ⟨2, .data⟩ (by simp) rfl)
                obtain rfl := hh5 (hdep ⟨5, .data⟩ (by simp) rfl)
                obtain rfl := hh8 (hdep ⟨8, .data⟩ (by simp) rfl)
                go_simp
                exact hK _ _ ⟨_, _, _, _, _, _, _, _, _, _, _, _, _, _, _, _, rfl, hB.trans ((Below.alloc (Below.refl W.heap.size W) (Nat.le_refl _) _).mono hB.size), hh0, hh1, hh2, hh3, hh4, hh5, hh6, hh7, hh8, fun _ => ⟨_, _, rfl, isI_new W _ _ _⟩, hh10, hh11, hh12, hh13, hh14, hh15⟩
              · -- operation 10
                cases ho
                have hd9 := hdep ⟨9, .data⟩ (by simp) rfl
                obtain ⟨g9, B9, rfl, hI9⟩ := hh9 hd9
                go_simp
                refine (medIm_any (some ⟨g9, 0, none⟩) 3 3 B9 _ m2 true HA2.out W rfl (by omega) hI9.low hI9.has).mono ?_
                rintro e w9x ⟨rfl, hb9⟩
                exact hK _ _ ⟨_, _, _, _, _, _, _, _, _, _, _, _, _, _, _, _, rfl, hB.trans (hb9.mono hB.size), hh0, hh1, hh2, hh3, hh4, hh5, hh6, hh7, hh8, fun q0 => (fun ⟨g, B, e, h⟩ => ⟨g, B, e, h.below hb9 h.low⟩) (hh9 q0), fun _ => rfl, hh11, hh12, hh13, hh14, hh15⟩
              · -- operation 11
                cases ho
                have hd10 := hdep ⟨10, .data⟩ (by simp) rfl
                obtain rfl := hh10 hd10
                go_simp
                exact hK _ _ ⟨_, _, _, _, _, _, _, _, _, _, _, _, _, _, _, _, rfl, hB, hh0, hh1, hh2, hh3, hh4, hh5, hh6, hh7, hh8, hh9, hh10, fun _ => rfl, hh12, hh13, hh14, hh15⟩
              · -- operation 12
                cases ho
                obtain rfl := hh11 (hdep ⟨11, .data⟩ (by simp) rfl)
                go_simp
                exact hK _ _ ⟨_, _, _, _, _, _, _, _, _, _, _, _, _, _, _, _, rfl, hB, hh0, hh1, hh2, hh3, hh4, hh5, hh6, hh7, hh8, hh9, hh10, hh11, fun _ => rfl, hh13, hh14, hh15⟩
              · -- operation 13
                cases ho
                obtain rfl := hh11 (hdep ⟨11, .data⟩ (by simp) rfl)
                go_simp
                exact hK _ _ ⟨_, _, _, _, _, _, _, _, _, _, _, _, _, _, _, _, rfl, hB, hh0, hh1, hh2, hh3, hh4, hh5, hh6, hh7, hh8, hh9, hh10, hh11, hh12, fun _ => rfl, hh14, hh15⟩
              · -- operation 14
                cases ho
                obtain rfl := hh12 (hdep ⟨12, .data⟩ (by simp) rfl)
                go_simp
                exact hK _ _ ⟨_, _, _, _, _, _, _, _, _, _, _, _, _, _, _, _, rfl, hB, hh0, hh1, hh2, hh3, hh4, hh5, hh6, hh7, hh8, hh9, hh10, hh11, hh12, hh13, fun _ => rfl, hh15⟩
              · -- operation 15
                cases ho
                obtain rfl := hh13 (hdep ⟨13, .data⟩ (by simp) rfl)
                go_simp
                exact hK _ _ ⟨_, _, _, _, _, _, _, _, _, _, _, _, _, _, _, _, rfl, hB, hh0, hh1, hh2, hh3, hh4, hh5, hh6, hh7, hh8, hh9, hh10, hh11, hh12, hh13, hh14, fun _ => rfl⟩
            intro Fl9 ac W hJ hall
            obtain ⟨x168, x169, x170, x171, x172, x173, x174, x175, x176, x177, x178, x167, x179, x180, x24, x25, rfl, hB, hh0, hh1, hh2, hh3, hh4, hh5, hh6, hh7, hh8, hh9, hh10, hh11, hh12, hh13, hh14, hh15⟩ := hJ
            obtain rfl := hh0 (hall 0 (by decide))
            obtain rfl := hh1 (hall 1 (by decide))
            obtain rfl := hh2 (hall 2 (by decide))
            obtain rfl := hh3 (hall 3 (by decide))
            obtain rfl := hh4 (hall 4 (by decide))
            obtain rfl := hh5 (hall 5 (by decide))
            obtain rfl := hh6 (hall 6 (by decide))
            obtain rfl := hh7 (hall 7 (by decide))
            obtain rfl := hh8 (hall 8 (by decide))
            obtain rfl := hh11 (hall 11 (by decide))
            obtain rfl := hh12 (hall 12 (by decide))
            obtain rfl := hh13 (hall 13 (by decide))
            obtain rfl := hh14 (hall 14 (by decide))
            obtain rfl := hh15 (hall 15 (by decide))
            obtain ⟨gz167, Bz167, rfl, -⟩ := hh9 (hall 9 (by decide))
            obtain rfl := hh10 (hall 10 (by decide))
            clear hall
            rename World => W11
            have HB11 := Lib.hid (HB10.out.trans (hB.mono HB10.out.size))
            have HL11 := Lib.hid (HL10.out.below hB HL10.out.low)
            have CH := Lib.hid (rHas_yes c2 HL11.out (by omega) m2 HMem.out)
            clear hB HB10 HL10 HA2
            go_wp2_with fail
            refine CH.out.mono ?_
            rintro e w12 ⟨rfl, rfl⟩
            clear CH HL11 HMem
            -- the drawn triples among which one may be suspect
            have D3 := Lib.hid (drawSus_any c (HC.out.on HB11.out))
            clear HC
            go_wp2_with fail
            refine D3.out.mono ?_
            rintro e w20 ⟨g3, c3, q3, vs, z3, rfl, hq3, hn4, hvs, hb⟩
            have HB20 := Lib.hid (HB11.out.trans (hb.mono HB11.out.size))
            have HL := Lib.hid hvs
            clear hb D3 HB11 hvs
            obtain ⟨m3, x3, hS⟩ := susA_ex (tss vs) z3
            have hn9 : ∀ k, k < q3 → (vs.getD k noSl).n ≤ 1048576 := fun k hk => by have := hn4 k hk; omega
            have HS := Lib.hid hS
            have HN := Lib.hid hn9
            have C1 := Lib.hid (susI_any c3 HL.out (by omega) hn9 z3 m3 x3 hS)
            have hmm3 : (m3 == m3) = true := by simp
            have hxx3 : (x3 == x3) = true := by simp
            clear hS hn9 hn4
            go_wp2_with fail
            refine C1.out.mono ?_
            rintro e w21 ⟨rfl, hb⟩
            have HB21 := Lib.hid (HB20.out.trans (hb.mono HB20.out.size))
            have HL21 := Lib.hid (HL.out.below hb HL.out.low)
            clear hb HB20 HL C1
            have C2 := Lib.hid (susS_any c3 HL21.out (by omega) HN.out z3 m3 x3 HS.out)
            go_wp2_with fail
            refine C2.out.mono ?_
            rintro e w22 ⟨rfl, hb⟩
            have HB22 := Lib.hid (HB21.out.trans (hb.mono HB21.out.size))
            clear hb HB21 HL21 C2 HS HN
            go_wp2_with fail
            go_ret
            exact ⟨rfl, HB22.out⟩
theorem own : ownKnob Try.prog.godebug = none := by kernel_rfl
theorem laidOut : laidOutB Try.prog = true := by kernel_rfl

set_option maxRecDepth 100000 in
theorem lifted (os : Os) (started : os.Started) (H : Type) (enc : TypeId × Value → H) :
    ReturnsInHanded {} Try.checked os 13 .any (Rows.fnSensorsSpec.pre6 enc Try.prog Try.f13 Rows.fnSensorsRow.domain false) (Rows.fnSensorsSpec.post enc Try.prog Try.f13 false true false false) := by
  refine returnsInHanded_of_change (C := Try.checked) own started (by kernel_rfl) Try.func13
    (ChangeSpec.witness6 (enc := enc) (C := Try.checked) false ⟨#[], #[.slice none 0 0], []⟩ 8 (by kernel_rfl) (by kernel_rfl) (by kernel_rfl) (by kernel_rfl)) ?_
  intro W base args ds gs before hval0 hW hcnd _
  have hval : ∀ (j : Nat) t v, Try.f13.params[j]? = some t → args[j]? = some v → Value.okWide Try.prog W .any base t v := hval0
  have hW' := hW
  obtain ⟨p, q, hA0, hV, rfl, hfz, hnd⟩ := hW
  have hA : DataW.TrodAll enc Try.prog W 0 (fun _ => true) true Try.f13.params.toList args.toList ds p := hA0
  rw [Try.params13] at hA hval
  obtain ⟨v0, vs0, d0, ds0, p0, q0, hargs, rfl, rfl, h0, r0⟩ := trodAll_cons hA
  obtain ⟨rfl, rfl, rfl⟩ := trodAll_nil r0
  obtain rfl : args = #[v0] := by cases args; simp_all
  obtain ⟨rfl, rfl⟩ := trodVars_none hV
  obtain ⟨a0, len0, cap0, rfl⟩ := okWide_slice Try.underlying57 (hval 0 57 v0 rfl rfl)
  have k0 := h0
  have lt0 : ∀ x ∈ p0, x.block < W.heap.size := by obtain ⟨m, hm⟩ := k0; exact DataW.trod_lt m _ _ _ hm
  obtain ⟨z0, w0⟩ : ∃ zs, IsInts .u8 W a0 len0 zs := by
    obtain ⟨fuel, hf⟩ := h0
    rcases open_ints Try.underlying57 Try.underlying5 (by kernel_rfl) hf with ⟨hcs, _⟩ | ⟨x, l, c, zs, hcs, _, hl, hm, hz, _, hcell, hwz⟩
    · simp [Value.cells] at hcs
      obtain ⟨rfl, rfl, rfl⟩ := hcs
      exact ⟨[], isInts_nil _ W⟩
    · simp [Value.cells] at hcs
      obtain ⟨rfl, rfl, rfl⟩ := hcs
      exact ⟨_, isInts_some hl hm (by simpa using hz) hcell hwz⟩
  clear hA0 hval0
  refine (walk a0 len0 cap0 z0 W w0).mono fun e W' ⟨he, bel⟩ => ?_
  subst he
  exact ⟨_, rfl, _, _, _, [], _, [], hW', trodAll_mk1 (shut_bool Try.underlying4 _), (trodAll_cons_mk (Below.trod laidOut (by kernel_rfl) (of_decide_eq_true (by kernel_rfl)) k0 bel lt0) trodAll_mk0), rfl, bel.frame _, fun h => by cases h⟩

theorem over : Rows.fnSensorsRow.holds Try.pinned (OpenSpec.ofChange Rows.fnSensorsSpec) :=
  OpenClaim.holds_of_wide 13 Try.f13 rfl rfl rfl rfl rfl rfl rfl ⟨rfl, rfl, rfl, rfl, rfl⟩ rfl rfl rfl rfl rfl (by kernel_rfl) Try.func13 (by kernel_rfl)
    (of_decide_eq_true (by kernel_rfl)) (by unfold Func.isWrapper; first | (rw [if_pos (by decide +kernel)]; kernel_rfl) | (rw [if_neg (by decide +kernel)]; exact ⟨rfl, rfl⟩))
    (fun os started H enc _ => lifted os started H enc)

/-- The statement. -/
theorem proved : Rows.FnSensorsSaid := over
end Go.Proofs.Yteeljlpbijmhlaa.fnSensors
