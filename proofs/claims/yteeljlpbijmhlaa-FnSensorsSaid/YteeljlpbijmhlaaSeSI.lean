/- Chapter 6: SuspectSensor of the program. -/
import Derived.Test.YteeljlpbijmhlaaSeSS
namespace Go.Proofs.Yteeljlpbijmhlaa
open Go.RowKit Go.PlainAid Go.Sort
set_option linter.unusedVariables false
set_option linter.unusedSimpArgs false

set_option maxRecDepth 100000 in
set_option maxHeartbeats 4000000 in
theorem susI_any {w : World} {B n : Nat} {A : Option Addr} {vs : List TSl} (c : Nat) (h : IsSls w B A n vs) (hm : n ≤ 1048576) (hsz : ∀ k, k < n → (vs.getD k noSl).n ≤ 1048576) (q m : Int) (x : Bool) (hA : SusA (tss vs) q m x) :
    Calls Try.prog 29 #[.slice A n c, .int .i64 q] w fun e w' => e = .returned (.tuple #[.int .i64 m, .bool x]) ∧ Below w.heap.size w w' := by
  obtain ⟨i0, hi, hz0, hz1, hz2⟩ := info_parts Try.infoInt'
  have htl : (tss vs).length = n := by rw [tss_len, h.len]
  have C1 := Lib.hid (fun W => inRange_any (n : Int) 1 20 W)
  by_cases h20 : 1 ≤ (n : Int) ∧ (n : Int) ≤ 20
  · rw [decide_eq_true h20] at C1
    have HI := Lib.hid h
    have HSZ := Lib.hid hsz
    have CA := Lib.hid (fun (W : World) (A' : Option Addr) (n' c' B' : Nat) (zs : List Int) (L : List Int) (y : Bool) hT h1 h2 h3 h4 => agrIm_any A' n' c' B' zs q L y hT W h1 h2 h3 h4)
    have CH := Lib.hid (fun (g n c : Nat) (L : List Int) (x : Int) (W : World) h1 h2 => contains6_any g n c L x W h1 h2)
    have HBAD : Hid (∀ k, k < n → ¬ (triS (vs.getD k noSl).zs ∧ 0 ≤ q ∧ q ≤ 2000) → m = 0 ∧ x = false) := Lib.hid (fun k hk ht => hA.2 (fun g => ht ⟨(by
      have hl : k < vs.length := by rw [h.len]; exact hk
      exact g.2.2.1 _ (by rw [← tss_at hl]; exact List.getElem_mem _)), g.2.1⟩))
    have HEND : Hid ((∀ k, k < n → triS (vs.getD k noSl).zs ∧ 0 ≤ q ∧ q ≤ 2000) → (0 < max (strK (tss vs) q n 0) (max (strK (tss vs) q n 1) (strK (tss vs) q n 2)) → m = (big3 (strK (tss vs) q n 0) (strK (tss vs) q n 1) (strK (tss vs) q n 2) : Nat) ∧ x = true) ∧
        (¬ 0 < max (strK (tss vs) q n 0) (max (strK (tss vs) q n 1) (strK (tss vs) q n 2)) → m = 0 ∧ x = false)) := Lib.hid (fun hall => by
      have hall2 : ∀ t ∈ tss vs, triS t := fun t ht => by
        obtain ⟨k, hk, rfl⟩ := List.getElem_of_mem ht
        have hl : k < vs.length := by rw [tss_len] at hk; exact hk
        rw [tss_at hl]
        exact (hall k (by rw [← h.len]; exact hl)).1
      have hq := (hall 0 (by omega)).2
      have h1 := hA.1
      have h2 := hA.2
      rw [htl] at h1 h2
      exact ⟨fun g => h1 ⟨⟨by omega, by omega⟩, hq, hall2, g⟩, fun g => h2 (fun e => g e.2.2.2)⟩)
    have H3 : Hid (∀ k, k < n → cntRow (strK (tss vs) q k 0) (strK (tss vs) q k 1) (strK (tss vs) q k 2) (vs.getD k noSl).zs q 3 = cn3 (strK (tss vs) q (k + 1) 0) (strK (tss vs) q (k + 1) 1) (strK (tss vs) q (k + 1) 2)) := Lib.hid (fun k hk => by
      have hl : k < vs.length := by rw [h.len]; exact hk
      rw [← tss_at hl]
      exact cntRow_three (tss vs) q k (by rw [htl]; exact hk))
    have HLE := Lib.hid (fun k i => strK_le (tss vs) q k i)
    have HZ : Hid (cn3 (strK (tss vs) q 0 0) (strK (tss vs) q 0 1) (strK (tss vs) q 0 2) = cn3 0 0 0) := Lib.hid (by rw [strK_zero, strK_zero, strK_zero])
    clear hA h htl hsz
    go_enter Try.func29, Try.ntmps29
    go_wp2_with fail
    refine (C1.out _).mono ?_
    rintro e w1 ⟨rfl, rfl⟩
    clear C1
    go_wp2_with (at_make; refine wpList_make_full _ rfl _ _ 22 rfl w.heap.size 3 i0 (.int .i64 0) 1 Try.underlying22 hi hz0 hz1 _ _ _ _ 3 rfl rfl rfl rfl ?b2 ?b3 (Nat.le_refl _) ?_)
    case b2 => rw [hz2]; omega
    case b3 => unfold maxLen; omega
    intro w0 hown0 hgrow0
    rw [made3] at hown0
    have hb0 : Below w.heap.size w w0 := (Below.refl _ _).grown hgrow0 (Nat.le_refl _) (fun k h => by cases h)
    obtain ⟨g, hg⟩ : ∃ g, w.heap.size = g := ⟨_, rfl⟩
    have HG := Lib.hid hg
    have HO := Lib.hid hown0
    have HB := Lib.hid hb0
    clear hgrow0 hown0 hb0
    rw [hg] at HO
    try simp only [hg]
    clear hg
    go_wp2_with fail
    go_loopw [20] (fun i wr => ∃ k : Nat, k ≤ n ∧ i = .int .i64 k ∧ Hid (wr.ownsRow g 3 1 (.slice (some ⟨g, 0, none⟩) 3 3) 3 ((cn3 (strK (tss vs) q k 0) (strK (tss vs) q k 1) (strK (tss vs) q k 2)).map (.int .i64))) ∧ Hid (∀ j, j < k → triS (vs.getD j noSl).zs ∧ 0 ≤ q ∧ q ≤ 2000) ∧ Hid (Below w.heap.size w wr)) (fun i _ => n - (intOf i).toNat)
    case atStart => exact ⟨0, Nat.zero_le _, rfl, Lib.hid (by rw [HZ.out]; exact HO.out), Lib.hid (fun j hj => absurd hj (by omega)), HB⟩
    case round =>
      clear HO HB
      obtain ⟨k, hk, rfl, hown, htri, HB⟩ := hrel
      by_cases hlt : k < n
      · obtain ⟨a1, ha1, hab, ez⟩ := (HI.out.below HB.out HI.out.low).at hlt
        obtain ⟨hv1, hv2, hv3⟩ := (HI.out.below HB.out HI.out.low).each k hlt
        have HBk := Lib.hid (HBAD.out k hlt)
        have hv5 := HSZ.out k hlt
        have H3k := Lib.hid (H3.out k hlt)
        have HTk : Hid ((triS (vs.getD k noSl).zs ∧ 0 ≤ q ∧ q ≤ 2000) → ∀ j, j < k + 1 → triS (vs.getD j noSl).zs ∧ 0 ≤ q ∧ q ≤ 2000) := Lib.hid (fun h j hj => by
          rcases Nat.lt_succ_iff_lt_or_eq.1 hj with h1 | rfl
          · exact htri.out j h1
          · exact h)
        have hs0 := HLE.out k 0
        have hs1 := HLE.out k 1
        have hs2 := HLE.out k 2
        subst ha1
        generalize vs.getD k noSl = V at ez hv1 hv2 hv3 hv5 HBk H3k HTk
        obtain ⟨A', n', c', zs⟩ := V
        dsimp only at ez hv1 hv2 hv3 hv5 HBk H3k HTk
        have hk0 : (0 : Int) ≤ (k : Int) := by omega
        have hk1 : (k : Int) < (n : Int) := by omega
        by_cases ht : triS zs ∧ 0 ≤ q ∧ q ≤ 2000
        · have C2 := Lib.hid (CA.out wr A' n' c' B zs (agr zs q) true ⟨fun _ => ⟨rfl, rfl⟩, fun h => absurd ht h⟩ hv1 hv5 (Nat.le_trans HI.out.low HB.out.size) hv3)
          have HR := Lib.hid (HTk.out ht)
          clear CA HBk HTk htri HBAD hv3
          go_wp2_with fail
          refine C2.out.mono ?_
          rintro e w2 ⟨ga, cp, rfl, hga, howna, hb2⟩
          have hl3 := agrK_len zs q 3
          rw [show agrK zs q 3 = agr zs q from rfl] at hl3
          have HLa := Lib.hid (own_isL howna)
          obtain ⟨nl, hnl⟩ : ∃ k, (agr zs q).length = k := ⟨_, rfl⟩
          rw [hnl] at HLa hl3 ⊢
          have hgl := (hown.out.lt g rfl).2
          have hne : ga ≠ g := by omega
          have HO2 := Lib.hid (hown.out.kept (grownBelow hb2 none) (.inr (by simp [Value.ownBlock])))
          have HB2 := Lib.hid (HB.out.trans (hb2.mono HB.out.size))
          obtain ⟨s0, hs0e⟩ : ∃ s, strK (tss vs) q k 0 = s := ⟨_, rfl⟩
          obtain ⟨s1, hs1e⟩ : ∃ s, strK (tss vs) q k 1 = s := ⟨_, rfl⟩
          obtain ⟨s2, hs2e⟩ : ∃ s, strK (tss vs) q k 2 = s := ⟨_, rfl⟩
          rw [hs0e, hs1e, hs2e] at HO2 H3k
          rw [hs0e] at hs0
          rw [hs1e] at hs1
          rw [hs2e] at hs2
          clear hown howna hb2 hnl C2 ez HB hs0e hs1e hs2e HLE
          go_wp2_with fail
          generalize w2 = wo at *
          go_loopw [34] (fun i wr => ∃ j : Nat, j ≤ 3 ∧ i = .int .i64 j ∧ Hid (wr.ownsRow g 3 1 (.slice (some ⟨g, 0, none⟩) 3 3) 3 ((cntRow s0 s1 s2 zs q j).map (.int .i64))) ∧ Hid (IsL6 wr ga nl (agr zs q)) ∧ Hid (Below w.heap.size w wr)) (fun i _ => 3 - (intOf i).toNat)
          case atStart => exact ⟨0, Nat.zero_le _, rfl, Lib.hid (by rw [cntRow_zero]; exact HO2.out), HLa, HB2⟩
          case round =>
            clear HO2 HLa HB2
            obtain ⟨j, hj, rfl, HO2, HLa, HB2⟩ := hrel
            by_cases hj3 : j < 3
            · have hj0 : (0 : Int) ≤ (j : Int) := by omega
              have hj1 : (j : Int) < 3 := by omega
              obtain ⟨b, hb⟩ : ∃ b, (agr zs q).contains (j : Int) = b := ⟨_, rfl⟩
              have C1 := Lib.hid (CH.out ga nl cp (agr zs q) j wr (by omega) HLa.out)
              rw [hb] at C1
              cases b with
              | true =>
                have HE := Lib.hid (cntRow_yes s0 s1 s2 zs q j hj3 hb)
                clear hb CH
                go_wp2_with fail
                refine C1.out.mono ?_
                rintro e w3 ⟨rfl, rfl⟩
                clear C1
                go_wp2_with fail
                go_roundw
                case rel => exact ⟨j + 1, by omega, by go_num, Lib.hid (by rw [HE.out]; exact HO2.out), HLa, HB2⟩
                case measure => simp [intOf]; omega
              | false =>
                have HE := Lib.hid (cntRow_no s0 s1 s2 zs q j hj3 hb)
                have hin := cntRow_in (x := s0) (y := s1) (z := s2) (t := zs) (q := q) (k := j) (i := j) (by omega) (by omega) (by omega)
                have hcell := own_at6 HO2.out (cntRow_len s0 s1 s2 zs q j) hj3
                have hfz := HO2.out.frozenAt j
                obtain ⟨ct, hct⟩ : ∃ ct, (cntRow s0 s1 s2 zs q j).getD j 0 = ct := ⟨_, rfl⟩
                rw [hct] at hcell HE hin
                have hst := HO2.out.stored j (.int .i64 (ct + 1))
                have HO3 : Hid ((wr.setCell ⟨g, j, none⟩ (.int .i64 (ct + 1))).ownsRow g 3 1 (.slice (some ⟨g, 0, none⟩) 3 3) 3 ((cntRow s0 s1 s2 zs q (j + 1)).map (.int .i64))) := Lib.hid (by rw [HE.out, List.map_set]; exact hst.1)
                have HL3 := Lib.hid (isL6_set (k := j) (u := .int .i64 (ct + 1)) HLa.out hne)
                have HB3 := Lib.hid (HB2.out.setCell (p := ⟨g, j, none⟩) (by rw [HG.out]; exact Nat.le_refl _) (.int .i64 (ct + 1)))
                clear hb CH hst HE hct HO2 HLa HB2
                go_wp2_with fail
                refine C1.out.mono ?_
                rintro e w3 ⟨rfl, rfl⟩
                clear C1
                go_wp2_with fail
                go_roundw
                case rel => exact ⟨j + 1, by omega, by go_num, HO3, HL3, HB3⟩
                case measure => simp [intOf]; omega
            · obtain rfl : j = 3 := by omega
              have HO4 : Hid (wr.ownsRow g 3 1 (.slice (some ⟨g, 0, none⟩) 3 3) 3 ((cn3 (strK (tss vs) q (k + 1) 0) (strK (tss vs) q (k + 1) 1) (strK (tss vs) q (k + 1) 2)).map (.int .i64))) := Lib.hid (by rw [← H3k.out]; exact HO2.out)
              clear HO2 HLa CH H3k
              go_wp2_with fail
              go_roundw
              case rel => exact ⟨k + 1, by omega, by go_num, HO4, HR, HB2⟩
              case measure => simp [intOf]; omega
        · obtain ⟨rfl, rfl⟩ := HBk.out ht
          have C2 := Lib.hid (CA.out wr A' n' c' B zs [] false ⟨fun h => absurd h ht, fun _ => ⟨rfl, rfl⟩⟩ hv1 hv5 (Nat.le_trans HI.out.low HB.out.size) hv3)
          clear CA HBk HTk htri HBAD hv3 hown HLE H3 H3k HEND
          go_wp2_with fail
          refine C2.out.mono ?_
          rintro e w2 ⟨ga, cp, rfl, hga, howna, hb2⟩
          have HB2 := Lib.hid (HB.out.trans (hb2.mono HB.out.size))
          clear C2 howna hb2 HB
          go_wp2_with fail
          refine bodyPost_ret (results_tmp2 rfl _ _ _) rfl ?_
          exact ⟨rfl, HB2.out⟩
      · obtain rfl : k = n := by omega
        have HE := Lib.hid (HEND.out htri.out)
        generalize strK (tss vs) q k 0 = s0 at hown HE
        generalize strK (tss vs) q k 1 = s1 at hown HE
        generalize strK (tss vs) q k 2 = s2 at hown HE
        have CM := Lib.hid (max6_any (some ⟨g, 0, none⟩) 3 3 _ (cn3 s0 s1 s2) wr rfl (by omega) (by omega) (ownS_has hown.out))
        have CX := Lib.hid (fun x => index6_any g 3 3 (cn3 s0 s1 s2) x wr (by omega) (own_isL hown.out))
        have hmx2 := mx_cn3 s0 s1 s2
        have HIX := Lib.hid (fun r h => idx_big (x := s0) (y := s1) (z := s2) (r := r) h)
        rw [show 3 - 1 = 2 from rfl, hmx2] at CM
        obtain ⟨mx, hmx⟩ : ∃ mx, max s0 (max s1 s2) = mx := ⟨_, rfl⟩
        rw [hmx] at CM HE HIX
        clear HEND HBAD H3 HLE HZ CA CH htri HI hown hmx2 hmx
        go_wp2_with fail
        refine CM.out.mono ?_
        rintro e w3 ⟨rfl, rfl⟩
        by_cases h0 : 0 < mx
        · obtain ⟨hmv, rfl⟩ := HE.out.1 h0
          have HMV := Lib.hid hmv
          have hz : ((mx : Int) == 0) = false := by rw [beq_eq_false_iff_ne]; omega
          clear HE CM hmv
          go_wp2_with fail
          refine (CX.out _).mono ?_
          rintro e w4 ⟨r, rfl, hr, rfl⟩
          have HR := Lib.hid (HIX.out r hr)
          clear hr CX HIX
          go_wp2_with fail
          refine bodyPost_ret (results_tmp2 rfl _ _ _) rfl ?_
          exact ⟨by rw [HMV.out, ← HR.out]; rfl, HB.out⟩
        · obtain ⟨rfl, rfl⟩ := HE.out.2 h0
          obtain rfl : mx = 0 := by omega
          clear HE CM CX HIX
          go_wp2_with fail
          refine bodyPost_ret (results_tmp2 rfl _ _ _) rfl ?_
          exact ⟨rfl, HB.out⟩
  · obtain ⟨rfl, rfl⟩ := hA.2 (fun g => h20 (by have h1 := g.1.1; have h2 := g.1.2; rw [htl] at h1 h2; omega))
    rw [decide_eq_false h20] at C1
    clear hA h htl
    go_enter Try.func29, Try.ntmps29
    go_wp2_with fail
    refine (C1.out _).mono ?_
    rintro e w1 ⟨rfl, rfl⟩
    go_wp2_with fail
    refine bodyPost_ret (results_tmp2 rfl _ _ _) rfl ?_
    exact ⟨rfl, Below.refl _ _⟩
end Go.Proofs.Yteeljlpbijmhlaa
