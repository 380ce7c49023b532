/- Chapter 6: TrustedBound, CommonBound and FewestFaults of the program. -/
import Derived.Test.YteeljlpbijmhlaaSeR
import Derived.Test.YteeljlpbijmhlaaSeB
namespace Go.Proofs.Yteeljlpbijmhlaa
open Go.RowKit Go.PlainAid Go.Sort
set_option linter.unusedVariables false
set_option linter.unusedSimpArgs false

set_option maxRecDepth 100000 in
set_option maxHeartbeats 4000000 in
theorem truI_any {w : World} {B n : Nat} {A : Option Addr} {vs : List TBound} (c : Nat) (h : IsBounds w B A n vs) (hm : n ≤ 1048576) (f : Int) (R0 R1 : Int) (x : Bool) (hA : TruA vs f R0 R1 x) :
    Calls Try.prog 44 #[.slice A n c, .int .i64 f] w fun e w' => e = .returned (.tuple #[.agg #[.int .i64 R0, .int .i64 R1], .bool x]) ∧ Below w.heap.size w w' := by
  have hb0 := below1q w (.cells #[.int .i64 0, .int .i64 0] 46)
  have C1 := Lib.hid (areB_any c (h.below hb0 h.low) hm)
  have C2 := Lib.hid (fun W => inRange_any f 0 ((n : Int) - 1) W)
  have P0 := Lib.hid (BoxB.new w 0 0)
  have PB := Lib.hid hb0
  by_cases hs : bndS vs
  · rw [decide_eq_true hs] at C1
    have hn8 : n ≤ 8 := by rw [← h.len]; exact hs.2.2
    have hn1 : (n : Int) - 1 ≤ 8 := by omega
    by_cases hf : 0 ≤ f ∧ f ≤ (n : Int) - 1
    · obtain ⟨fn, rfl⟩ : ∃ fn : Nat, f = fn := ⟨f.toNat, by omega⟩
      rw [decide_eq_true hf] at C2
      obtain ⟨m, hmn⟩ : ∃ m, n - fn = m := ⟨_, rfl⟩
      have hmi : (n : Int) - (fn : Int) = (m : Int) := by omega
      have CC := Lib.hid (fun (x : Int) (W : World) (hW : Below w.heap.size w W) => around_any c (h.below hW h.low) hm x)
      have HI := Lib.hid h
      have HS := Lib.hid hs
      have HCL := Lib.hid (fun x => (show cntB vs x ≤ n by have := cntK_le vs x vs.length; unfold cntB; rw [h.len] at this ⊢; exact this))
      have HA : Hid ((hasK vs m n → R0 = lowK vs m n ∧ R1 = highK vs m n ∧ x = true) ∧ (¬ hasK vs m n → R0 = 0 ∧ R1 = 0 ∧ x = false)) := Lib.hid (by
        have e : vs.length - ((fn : Int)).toNat = m := by rw [h.len, Int.toNat_natCast]; exact hmn
        have h1 := hA.1
        have h2 := hA.2
        rw [e, h.len] at h1 h2
        exact ⟨fun g => h1 ⟨hs, hf.1, hf.2, g⟩, fun g => h2 (fun q => g q.2.2.2)⟩)
      clear hA h hm hs hb0
      go_enter Try.func44, Try.ntmps44
      go_wp2_with fail
      refine C1.out.mono ?_
      rintro e w1 ⟨rfl, hb1⟩
      have HB1 := Lib.hid (PB.out.trans (hb1.mono (by simp)))
      have Q0 := Lib.hid (P0.out.all hb1)
      clear hb1 C1 P0 PB
      go_wp2_with fail
      refine (C2.out _).mono ?_
      rintro e w1' ⟨rfl, rfl⟩
      clear C2
      have P7 := Lib.hid (BoxB.new w1 2000 0)
      have hg0 := Q0.out.lt
      have P0 := Lib.hid (Q0.out.all (below1q w1 (.cells #[.int .i64 2000, .int .i64 0] 46)))
      have PB := Lib.hid (HB1.out.trans ((below1q w1 (.cells #[.int .i64 2000, .int .i64 0] 46)).mono HB1.out.size))
      obtain ⟨g7, hg7⟩ : ∃ g, w1.heap.size = g := ⟨_, rfl⟩
      rw [hg7] at P7 hg0
      have HG7 := Lib.hid hg7
      clear Q0 HB1 hg7
      go_wp2_with fail
      try simp only [HG7.out]
      go_loopw [8, 30] (fun f i wr => ∃ k : Nat, k ≤ n ∧ i = .int .i64 k ∧ f = .bool (decide (hasK vs m k)) ∧ Hid (BoxB wr g7 (lowK vs m k) (highK vs m k)) ∧ Hid (BoxB wr w.heap.size 0 0) ∧ Below w.heap.size w wr) (fun _ i _ => n - (intOf i).toNat)
      case atStart => exact ⟨0, Nat.zero_le _, rfl, by simp [hasK_zero], P7, P0, PB.out⟩
      case round =>
        clear P7 P0 PB
        obtain ⟨k, hkk, rfl, rfl, hbx, hb0, hb⟩ := hrel
        have HB := Lib.hid hb
        by_cases hlt : k < n
        · obtain ⟨a1, ha1, hab, HV⟩ := (HI.out.below hb HI.out.low).at hlt
          have HLY := Lib.hid (fun h => lowK_yes (vs := vs) (m := m) (k := k) h)
          have HLN := Lib.hid (fun h => lowK_no (vs := vs) (m := m) (k := k) h)
          have HSY := Lib.hid (fun h => hasK_yes (vs := vs) (m := m) (k := k) h)
          have HSN := Lib.hid (fun h => hasK_no (vs := vs) (m := m) (k := k) h)
          have HHY := Lib.hid (fun h => highK_yes (vs := vs) (m := m) (k := k) h)
          have HHN := Lib.hid (fun h => highK_no (vs := vs) (m := m) (k := k) h)
          have C1 := Lib.hid (CC.out (vs.getD k noBound).x0)
          have C2 := Lib.hid (CC.out (vs.getD k noBound).x1)
          have hcl := HCL.out (vs.getD k noBound).x0
          have hcl2 := HCL.out (vs.getD k noBound).x1
          subst ha1
          generalize vs.getD k noBound = V at HV HLY HLN HSY HSN HHY HHN C1 C2 hcl hcl2
          obtain ⟨x, y⟩ := V
          obtain ⟨e0, e1⟩ := HV
          dsimp only at e0 e1 HLY HLN HSY HSN HHY HHN C1 C2 hcl hcl2
          generalize cntB vs x = ct at HLY HLN HSY HSN C1 hcl
          generalize cntB vs y = ct2 at HHY HHN C2 hcl2
          have hk0 : (0 : Int) ≤ (k : Int) := by omega
          have hk1 : (k : Int) < (n : Int) := by omega
          have hlt7 := hbx.out.lt
          have P7 := Lib.hid (hbx.out.all (below1q wr (.cells #[.int .i64 x, .int .i64 y] 46)))
          have P0 := Lib.hid (hb0.out.all (below1q wr (.cells #[.int .i64 x, .int .i64 y] 46)))
          have Pb := Lib.hid (BoxB.new wr x y)
          have PB := Lib.hid (HB.out.trans ((below1q wr (.cells #[.int .i64 x, .int .i64 y] 46)).mono HB.out.size))
          obtain ⟨gb, hgb⟩ : ∃ g, wr.heap.size = g := ⟨_, rfl⟩
          rw [hgb] at Pb hlt7
          have HGB := Lib.hid hgb
          clear hb CC HB hbx hb0 hgb HA
          go_wp2_with fail
          try simp only [HGB.out]
          refine (C1.out _ PB.out).mono ?_
          rintro e w2 ⟨rfl, hb2⟩
          have HB2 := Lib.hid (PB.out.trans (hb2.mono PB.out.size))
          have Q7 := Lib.hid (P7.out.all hb2)
          have Q0 := Lib.hid (P0.out.all hb2)
          have Qb := Lib.hid (Pb.out.all hb2)
          clear hb2 P7 P0 Pb PB e0 e1 C1 HGB
          have h71 : gb ≠ g7 := by omega
          have h72 : g7 ≠ gb := by omega
          have k0 := Q7.out.c0
          have j0 := Qb.out.c0
          have j1 := Qb.out.c1
          have kz := Q7.out.fz 0
          obtain ⟨lk, hlk⟩ : ∃ x, lowK vs m k = x := ⟨_, rfl⟩
          obtain ⟨hk, hhk⟩ : ∃ x, highK vs m k = x := ⟨_, rfl⟩
          rw [hlk] at Q7 HLY HLN k0
          rw [hhk] at Q7 HHY HHN
          clear hlk hhk
          by_cases hct : m ≤ ct
          · have hge : (m : Int) ≤ (ct : Int) := by omega
            have RL := Lib.hid (HLY.out hct)
            have R2 := Lib.hid (decide_eq_true (HSY.out hct))
            by_cases hxl : x < lk
            · have S7 : Hid (BoxB (w2.setCell ⟨g7, 0, none⟩ (.int .i64 x)) g7 (lowK vs m (k + 1)) hk) := Lib.hid (by rw [RL.out, show min lk x = x by omega]; exact Q7.out.set0 _)
              have S0 := Lib.hid (Q0.out.other (g' := g7) (i := 0) (u := .int .i64 x) (by omega))
              have Sb := Lib.hid (Qb.out.other (g' := g7) (i := 0) (u := .int .i64 x) (by omega))
              have SB := Lib.hid (HB2.out.setCell (p := ⟨g7, 0, none⟩) (by show w.heap.size ≤ g7; omega) (.int .i64 x))
              clear HLY HLN HSY HSN Q7 Q0 Qb HB2 RL
              go_wp2_with fail
              generalize w2.setCell ⟨g7, 0, none⟩ (.int .i64 x) = w9 at S7 S0 Sb SB ⊢
              clear k0 j0 j1 kz
              refine (C2.out _ SB.out).mono ?_
              rintro e w3 ⟨rfl, hb3⟩
              have HB3 := Lib.hid (SB.out.trans (hb3.mono SB.out.size))
              have T7 := Lib.hid (S7.out.all hb3)
              have T0 := Lib.hid (S0.out.all hb3)
              have Tb := Lib.hid (Sb.out.all hb3)
              clear hb3 SB S7 S0 Sb C2
              have m1 := T7.out.c1
              have n1 := Tb.out.c1
              have mz := T7.out.fz 1
              by_cases hct2 : m ≤ ct2
              · have hge2 : (m : Int) ≤ (ct2 : Int) := by omega
                have RH := Lib.hid (HHY.out hct2)
                by_cases hyk : hk < y
                · have HN1 : Hid (BoxB (w3.setCell ⟨g7, 1, none⟩ (.int .i64 y)) g7 (lowK vs m (k + 1)) (highK vs m (k + 1))) := Lib.hid (by rw [RH.out, show max hk y = y by omega]; exact T7.out.set1 _)
                  have HN0 := Lib.hid (T0.out.other (g' := g7) (i := 1) (u := .int .i64 y) (by omega))
                  have HNB := Lib.hid (HB3.out.setCell (p := ⟨g7, 1, none⟩) (by show w.heap.size ≤ g7; omega) (.int .i64 y))
                  clear HHY HHN T7 T0 Tb HB3 RH
                  go_wp2_with fail
                  go_roundw
                  case rel => exact ⟨k + 1, by omega, by go_num, by rw [R2.out], HN1, HN0, HNB.out⟩
                  case measure => simp [intOf]; omega
                · have HN1 : Hid (BoxB (w3.setCell ⟨g7, 1, none⟩ (.int .i64 hk)) g7 (lowK vs m (k + 1)) (highK vs m (k + 1))) := Lib.hid (by rw [RH.out, show max hk y = hk by omega]; exact T7.out.set1 _)
                  have HN0 := Lib.hid (T0.out.other (g' := g7) (i := 1) (u := .int .i64 hk) (by omega))
                  have HNB := Lib.hid (HB3.out.setCell (p := ⟨g7, 1, none⟩) (by show w.heap.size ≤ g7; omega) (.int .i64 hk))
                  clear HHY HHN T7 T0 Tb HB3 RH
                  go_wp2_with fail
                  go_roundw
                  case rel => exact ⟨k + 1, by omega, by go_num, by rw [R2.out], HN1, HN0, HNB.out⟩
                  case measure => simp [intOf]; omega
              · have hge2 : ¬ ((m : Int) ≤ (ct2 : Int)) := by omega
                have HN1 : Hid (BoxB w3 g7 (lowK vs m (k + 1)) (highK vs m (k + 1))) := Lib.hid (by rw [HHN.out hct2]; exact T7.out)
                clear HHY HHN T7 Tb
                go_wp2_with fail
                go_roundw
                case rel => exact ⟨k + 1, by omega, by go_num, by rw [R2.out], HN1, T0, HB3.out⟩
                case measure => simp [intOf]; omega
            · have S7 : Hid (BoxB (w2.setCell ⟨g7, 0, none⟩ (.int .i64 lk)) g7 (lowK vs m (k + 1)) hk) := Lib.hid (by rw [RL.out, show min lk x = lk by omega]; exact Q7.out.set0 _)
              have S0 := Lib.hid (Q0.out.other (g' := g7) (i := 0) (u := .int .i64 lk) (by omega))
              have Sb := Lib.hid (Qb.out.other (g' := g7) (i := 0) (u := .int .i64 lk) (by omega))
              have SB := Lib.hid (HB2.out.setCell (p := ⟨g7, 0, none⟩) (by show w.heap.size ≤ g7; omega) (.int .i64 lk))
              clear HLY HLN HSY HSN Q7 Q0 Qb HB2 RL
              go_wp2_with fail
              generalize w2.setCell ⟨g7, 0, none⟩ (.int .i64 lk) = w9 at S7 S0 Sb SB ⊢
              clear k0 j0 j1 kz
              refine (C2.out _ SB.out).mono ?_
              rintro e w3 ⟨rfl, hb3⟩
              have HB3 := Lib.hid (SB.out.trans (hb3.mono SB.out.size))
              have T7 := Lib.hid (S7.out.all hb3)
              have T0 := Lib.hid (S0.out.all hb3)
              have Tb := Lib.hid (Sb.out.all hb3)
              clear hb3 SB S7 S0 Sb C2
              have m1 := T7.out.c1
              have n1 := Tb.out.c1
              have mz := T7.out.fz 1
              by_cases hct2 : m ≤ ct2
              · have hge2 : (m : Int) ≤ (ct2 : Int) := by omega
                have RH := Lib.hid (HHY.out hct2)
                by_cases hyk : hk < y
                · have HN1 : Hid (BoxB (w3.setCell ⟨g7, 1, none⟩ (.int .i64 y)) g7 (lowK vs m (k + 1)) (highK vs m (k + 1))) := Lib.hid (by rw [RH.out, show max hk y = y by omega]; exact T7.out.set1 _)
                  have HN0 := Lib.hid (T0.out.other (g' := g7) (i := 1) (u := .int .i64 y) (by omega))
                  have HNB := Lib.hid (HB3.out.setCell (p := ⟨g7, 1, none⟩) (by show w.heap.size ≤ g7; omega) (.int .i64 y))
                  clear HHY HHN T7 T0 Tb HB3 RH
                  go_wp2_with fail
                  go_roundw
                  case rel => exact ⟨k + 1, by omega, by go_num, by rw [R2.out], HN1, HN0, HNB.out⟩
                  case measure => simp [intOf]; omega
                · have HN1 : Hid (BoxB (w3.setCell ⟨g7, 1, none⟩ (.int .i64 hk)) g7 (lowK vs m (k + 1)) (highK vs m (k + 1))) := Lib.hid (by rw [RH.out, show max hk y = hk by omega]; exact T7.out.set1 _)
                  have HN0 := Lib.hid (T0.out.other (g' := g7) (i := 1) (u := .int .i64 hk) (by omega))
                  have HNB := Lib.hid (HB3.out.setCell (p := ⟨g7, 1, none⟩) (by show w.heap.size ≤ g7; omega) (.int .i64 hk))
                  clear HHY HHN T7 T0 Tb HB3 RH
                  go_wp2_with fail
                  go_roundw
                  case rel => exact ⟨k + 1, by omega, by go_num, by rw [R2.out], HN1, HN0, HNB.out⟩
                  case measure => simp [intOf]; omega
              · have hge2 : ¬ ((m : Int) ≤ (ct2 : Int)) := by omega
                have HN1 : Hid (BoxB w3 g7 (lowK vs m (k + 1)) (highK vs m (k + 1))) := Lib.hid (by rw [HHN.out hct2]; exact T7.out)
                clear HHY HHN T7 Tb
                go_wp2_with fail
                go_roundw
                case rel => exact ⟨k + 1, by omega, by go_num, by rw [R2.out], HN1, T0, HB3.out⟩
                case measure => simp [intOf]; omega
          · have hge : ¬ ((m : Int) ≤ (ct : Int)) := by omega
            have R2 : Hid (decide (hasK vs m (k + 1)) = decide (hasK vs m k)) := Lib.hid (decide_eq_decide.2 (HSN.out hct))
            have S7 : Hid (BoxB w2 g7 (lowK vs m (k + 1)) hk) := Lib.hid (by rw [HLN.out hct]; exact Q7.out)
            clear HLY HLN HSY HSN Q7
            go_wp2_with fail
            clear k0 j0 j1 kz
            refine (C2.out _ HB2.out).mono ?_
            rintro e w3 ⟨rfl, hb3⟩
            have HB3 := Lib.hid (HB2.out.trans (hb3.mono HB2.out.size))
            have T7 := Lib.hid (S7.out.all hb3)
            have T0 := Lib.hid (Q0.out.all hb3)
            have Tb := Lib.hid (Qb.out.all hb3)
            clear hb3 HB2 S7 Q0 Qb C2
            have m1 := T7.out.c1
            have n1 := Tb.out.c1
            have mz := T7.out.fz 1
            by_cases hct2 : m ≤ ct2
            · have hge2 : (m : Int) ≤ (ct2 : Int) := by omega
              have RH := Lib.hid (HHY.out hct2)
              by_cases hyk : hk < y
              · have HN1 : Hid (BoxB (w3.setCell ⟨g7, 1, none⟩ (.int .i64 y)) g7 (lowK vs m (k + 1)) (highK vs m (k + 1))) := Lib.hid (by rw [RH.out, show max hk y = y by omega]; exact T7.out.set1 _)
                have HN0 := Lib.hid (T0.out.other (g' := g7) (i := 1) (u := .int .i64 y) (by omega))
                have HNB := Lib.hid (HB3.out.setCell (p := ⟨g7, 1, none⟩) (by show w.heap.size ≤ g7; omega) (.int .i64 y))
                clear HHY HHN T7 T0 Tb HB3 RH
                go_wp2_with fail
                go_roundw
                case rel => exact ⟨k + 1, by omega, by go_num, by rw [R2.out], HN1, HN0, HNB.out⟩
                case measure => simp [intOf]; omega
              · have HN1 : Hid (BoxB (w3.setCell ⟨g7, 1, none⟩ (.int .i64 hk)) g7 (lowK vs m (k + 1)) (highK vs m (k + 1))) := Lib.hid (by rw [RH.out, show max hk y = hk by omega]; exact T7.out.set1 _)
                have HN0 := Lib.hid (T0.out.other (g' := g7) (i := 1) (u := .int .i64 hk) (by omega))
                have HNB := Lib.hid (HB3.out.setCell (p := ⟨g7, 1, none⟩) (by show w.heap.size ≤ g7; omega) (.int .i64 hk))
                clear HHY HHN T7 T0 Tb HB3 RH
                go_wp2_with fail
                go_roundw
                case rel => exact ⟨k + 1, by omega, by go_num, by rw [R2.out], HN1, HN0, HNB.out⟩
                case measure => simp [intOf]; omega
            · have hge2 : ¬ ((m : Int) ≤ (ct2 : Int)) := by omega
              have HN1 : Hid (BoxB w3 g7 (lowK vs m (k + 1)) (highK vs m (k + 1))) := Lib.hid (by rw [HHN.out hct2]; exact T7.out)
              clear HHY HHN T7 Tb
              go_wp2_with fail
              go_roundw
              case rel => exact ⟨k + 1, by omega, by go_num, by rw [R2.out], HN1, T0, HB3.out⟩
              case measure => simp [intOf]; omega
        · obtain rfl : k = n := by omega
          by_cases hh : hasK vs m k
          · obtain ⟨rfl, rfl, rfl⟩ := HA.out.1 hh
            rw [decide_eq_true hh]
            obtain ⟨lv, hlv⟩ : ∃ x, lowK vs m k = x := ⟨_, rfl⟩
            obtain ⟨hv, hhv⟩ : ∃ x, highK vs m k = x := ⟨_, rfl⟩
            rw [hlv, hhv] at hbx
            have HL := Lib.hid (And.intro hlv hhv)
            clear hlv hhv HA hh hb CC
            have c0 := hb0.out.c0
            have c1 := hb0.out.c1
            have f0 := hb0.out.fz 0
            have f1 := hb0.out.fz 1
            have d0 := hbx.out.c0
            have d1 := hbx.out.c1
            go_wp2_with fail
            refine bodyPost_ret (results_rowB rfl _ _ w.heap.size [.int .i64 lv, .int .i64 hv] _ rfl (hb0.out.sets lv hv).rangeAt Try.underlying46 rfl (by kernel_rfl)) rfl ?_
            exact ⟨by rw [HL.out.1, HL.out.2]; rfl, sets2_below HB.out (Nat.le_refl _) _ _⟩
          · obtain ⟨rfl, rfl, rfl⟩ := HA.out.2 hh
            rw [decide_eq_false hh]
            clear HA hh hb CC hbx
            have c0 := hb0.out.c0
            have c1 := hb0.out.c1
            have f0 := hb0.out.fz 0
            have f1 := hb0.out.fz 1
            go_wp2_with fail
            refine bodyPost_ret (results_rowB rfl _ _ w.heap.size [.int .i64 0, .int .i64 0] _ rfl (hb0.out.sets 0 0).rangeAt Try.underlying46 rfl (by kernel_rfl)) rfl ?_
            exact ⟨rfl, sets2_below HB.out (Nat.le_refl _) _ _⟩
    · obtain ⟨rfl, rfl, rfl⟩ := hA.2 (fun g => hf ⟨g.2.1, by have := g.2.2.1; rw [h.len] at this; exact this⟩)
      rw [decide_eq_false hf] at C2
      clear hA h hm hs hb0
      go_enter Try.func44, Try.ntmps44
      go_wp2_with fail
      refine C1.out.mono ?_
      rintro e w1 ⟨rfl, hb1⟩
      have HB1 := Lib.hid (PB.out.trans (hb1.mono (by simp)))
      have Q0 := Lib.hid (P0.out.all hb1)
      clear hb1 C1 P0 PB
      go_wp2_with fail
      refine (C2.out _).mono ?_
      rintro e w1' ⟨rfl, rfl⟩
      clear C2
      have c0 := Q0.out.c0
      have c1 := Q0.out.c1
      have f0 := Q0.out.fz 0
      have f1 := Q0.out.fz 1
      go_wp2_with fail
      refine bodyPost_ret (results_rowB rfl _ _ w.heap.size [.int .i64 0, .int .i64 0] _ rfl (Q0.out.sets 0 0).rangeAt Try.underlying46 rfl (by kernel_rfl)) rfl ?_
      exact ⟨rfl, sets2_below HB1.out (Nat.le_refl _) _ _⟩
  · obtain ⟨rfl, rfl, rfl⟩ := hA.2 (fun g => hs g.1)
    rw [decide_eq_false hs] at C1
    clear hA h hm hs hb0 C2
    go_enter Try.func44, Try.ntmps44
    go_wp2_with fail
    refine C1.out.mono ?_
    rintro e w1 ⟨rfl, hb1⟩
    have HB1 := Lib.hid (PB.out.trans (hb1.mono (by simp)))
    have Q0 := Lib.hid (P0.out.all hb1)
    clear hb1 C1 P0 PB
    have c0 := Q0.out.c0
    have c1 := Q0.out.c1
    have f0 := Q0.out.fz 0
    have f1 := Q0.out.fz 1
    go_wp2_with fail
    refine bodyPost_ret (results_rowB rfl _ _ w.heap.size [.int .i64 0, .int .i64 0] _ rfl (Q0.out.sets 0 0).rangeAt Try.underlying46 rfl (by kernel_rfl)) rfl ?_
    exact ⟨rfl, sets2_below HB1.out (Nat.le_refl _) _ _⟩

set_option maxRecDepth 100000 in
set_option maxHeartbeats 2000000 in
theorem fewI_any {w : World} {B n : Nat} {A : Option Addr} {vs : List TBound} (c : Nat) (h : IsBounds w B A n vs) (hm : n ≤ 1048576) (m : Int) (x : Bool) (hA : FewA vs m x) :
    Calls Try.prog 46 #[.slice A n c] w fun e w' => e = .returned (.tuple #[.int .i64 m, .bool x]) ∧ Below w.heap.size w w' := by
  have CT := Lib.hid (fun (f : Nat) (R0 R1 : Int) (x : Bool) (hT : TruA vs f R0 R1 x) (W : World) (hW : Below w.heap.size w W) => truI_any c (h.below hW h.low) hm f R0 R1 x hT)
  have HX := Lib.hid (fun f : Nat => truA_ex vs f)
  have HHIT : Hid (∀ (f : Nat) R0 R1, f < n → TruA vs f R0 R1 true → (∀ j, j < f → ¬ (bndS vs ∧ hasK vs (n - j) n)) → m = f ∧ x = true) := Lib.hid (fun f R0 R1 hf hT hn => by
    have hb : bndS vs ∧ hasK vs (n - f) n := by
      by_cases g : bndS vs ∧ 0 ≤ (f : Int) ∧ (f : Int) ≤ (vs.length : Int) - 1 ∧ hasK vs (vs.length - ((f : Int)).toNat) vs.length
      · have := g.2.2.2
        rw [Int.toNat_natCast, h.len] at this
        exact ⟨g.1, this⟩
      · have := (hT.2 g).2.2
        cases this
    refine fewA_hit hA hb.1 (by rw [h.len]; exact hf) (by rw [h.len]; exact hb.2) (fun j hj => ?_)
    rw [h.len]
    exact fun g => hn j hj ⟨hb.1, g⟩)
  have HNO : Hid (∀ (f : Nat) R0 R1, f < n → TruA vs f R0 R1 false → ¬ (bndS vs ∧ hasK vs (n - f) n)) := Lib.hid (fun f R0 R1 hf hT g => by
    have := (hT.1 ⟨g.1, by omega, by rw [h.len]; omega, by rw [Int.toNat_natCast, h.len]; exact g.2⟩).2.2
    cases this)
  have HM : Hid ((∀ j, j < n → ¬ (bndS vs ∧ hasK vs (n - j) n)) → m = 0 ∧ x = false) := Lib.hid (fun g => fewA_miss hA (by
    by_cases hs : bndS vs
    · exact .inr (by rw [h.len]; exact fun j hj q => g j hj ⟨hs, q⟩)
    · exact .inl hs))
  clear hA h
  go_enter Try.func46, Try.ntmps46
  go_wp2_with fail
  go_loopw [9] (fun i wr => ∃ k : Nat, k ≤ n ∧ i = .int .i64 k ∧ Hid (∀ j, j < k → ¬ (bndS vs ∧ hasK vs (n - j) n)) ∧ Below w.heap.size w wr) (fun i _ => n - (intOf i).toNat)
  case atStart => exact ⟨0, Nat.zero_le _, rfl, Lib.hid (fun j hj => absurd hj (by omega)), Below.refl _ _⟩
  case round =>
    obtain ⟨k, hk, rfl, hno, hb⟩ := hrel
    have HB := Lib.hid hb
    by_cases hlt : k < n
    · obtain ⟨R0, R1, y, hT⟩ := HX.out k
      have C := Lib.hid (CT.out k R0 R1 y hT wr hb)
      have hk1 : (k : Int) < (n : Int) := by omega
      cases y with
      | true =>
        obtain ⟨rfl, rfl⟩ := HHIT.out k R0 R1 hlt hT hno.out
        clear hb CT HX HHIT HNO HM hT hno
        go_wp2_with fail
        refine C.out.mono ?_
        rintro e w2 ⟨rfl, hb2⟩
        have HB2 := Lib.hid ((HB.out.trans (hb2.mono HB.out.size)).trans ((below1q w2 (.cells #[.int .i64 R0, .int .i64 R1] 46)).mono (Nat.le_trans HB.out.size hb2.size)))
        clear hb2 C HB
        go_wp2_with fail
        refine bodyPost_ret (results_tmp2 rfl _ _ _) rfl ?_
        exact ⟨rfl, HB2.out⟩
      | false =>
        have hnk := HNO.out k R0 R1 hlt hT
        have HR : Hid (∀ j, j < k + 1 → ¬ (bndS vs ∧ hasK vs (n - j) n)) := Lib.hid (fun j hj => by
          rcases Nat.lt_succ_iff_lt_or_eq.1 hj with h1 | rfl
          · exact hno.out j h1
          · exact hnk)
        clear hb CT HX HHIT HNO HM hT hno hnk
        go_wp2_with fail
        refine C.out.mono ?_
        rintro e w2 ⟨rfl, hb2⟩
        have HB2 := Lib.hid ((HB.out.trans (hb2.mono HB.out.size)).trans ((below1q w2 (.cells #[.int .i64 R0, .int .i64 R1] 46)).mono (Nat.le_trans HB.out.size hb2.size)))
        clear hb2 C HB
        go_wp2_with fail
        go_roundw
        case rel => exact ⟨k + 1, by omega, by go_num, HR, HB2.out⟩
        case measure => simp [intOf]; omega
    · obtain rfl : k = n := by omega
      obtain ⟨rfl, rfl⟩ := HM.out hno.out
      clear hb CT HX HHIT HNO HM hno
      go_wp2_with fail
      refine bodyPost_ret (results_tmp2 rfl _ _ _) rfl ?_
      exact ⟨rfl, HB.out⟩
end Go.Proofs.Yteeljlpbijmhlaa
