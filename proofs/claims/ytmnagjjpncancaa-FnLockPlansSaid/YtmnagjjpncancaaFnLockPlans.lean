/- The planned commands are all made and open the gate, with the minutes that are told and no more water than needed: FnLockPlans answers true at all bytes, and leaves them as they were. -/
import Derived.Test.YtmnagjjpncancaaLoW
import Derived.Test.YtmnagjjpncancaaLoY
import Derived.Test.YtmnagjjpncancaaBig
import Derived.Test.YtmnagjjpncancaaSt0
import Derived.Test.YtmnagjjpncancaaVInt
import Derived.OpenShut
import Derived.ShutString
import Derived.ChangeOld
import Derived.WalkLawsBesides
import Derived.Lib.SmallJoins
namespace Go.Proofs.Ytmnagjjpncancaa.fnLockPlans
open Go.ChangeShapes Go.WideShapes Go.ChangeAt Go.RowKit Go.PlainAid Go.Sort
open Go.ChangeMaps (open_string shut_string)
set_option linter.unusedVariables false
set_option linter.unusedSimpArgs false

set_option maxRecDepth 100000 in
set_option maxHeartbeats 8000000 in
theorem walk (A : Option Addr) (n c : Nat) (zs : List Int) (w : World) (hI : IsInts .u8 w A n zs) :
    Calls Try.prog 12 #[.slice A n c] w fun e w' => e = .returned (.bool true) ∧ Below w.heap.size w w' := by
  by_cases hbig : 65536 < n
  · have CB := Lib.hid (fun W => bigL_yes A n c W hbig hI.2.1)
    clear hI
    go_enter Try.func12, Try.ntmps12
    go_wp2_with fail
    refine (CB.out _).mono ?_
    rintro e w0 ⟨rfl, rfl⟩
    go_wp2_with fail
    go_ret
    exact ⟨rfl, Below.refl _ _⟩
  have HC := Lib.hid (Code_.of hI (by omega))
  have CB := Lib.hid (fun W => bigL_no A n c W (by omega))
  clear hI hbig
  go_enter Try.func12, Try.ntmps12
  go_wp2_with fail
  refine (CB.out _).mono ?_
  rintro e w0 ⟨rfl, rfl⟩
  clear CB
  go_wp2_with fail
  refine (drawPlan c HC.out).mono ?_
  rintro e w1 ⟨l, u, v, a, b, cc, d, hi, rfl, hb⟩
  obtain ⟨L, x, hA⟩ := ansP_ex ⟨l, u, v, a, b, cc, d⟩ hi
  have hm44 := hA.len
  obtain ⟨m, hm⟩ : ∃ m, L.length = m := ⟨_, rfl⟩
  rw [hm] at hm44
  have HA := Lib.hid hA
  have HM := Lib.hid hm
  have HB1 := Lib.hid (hb.alloc hb.size (.cells #[.int .i64 l, .int .i64 u, .int .i64 v, .bool a, .bool b, .bool cc, .bool d] 23))
  have QS1 := Lib.hid (BoxL.new w1 l u v a b cc d)
  clear hb hA hm
  have s0 := QS1.out.c0
  have s1 := QS1.out.c1
  have s2 := QS1.out.c2
  have s3 := QS1.out.c3
  have s4 := QS1.out.c4
  have s5 := QS1.out.c5
  have s6 := QS1.out.c6
  go_wp2_with fail
  refine (planI_any l u v a b cc d hi L x HA.out m HM.out _).mono ?_
  rintro e w2 ⟨gp, cp, rfl, ho, hb⟩
  have HB2 := Lib.hid (HB1.out.trans (hb.mono HB1.out.size))
  have QS2 := Lib.hid (QS1.out.all hb)
  have HP2 := Lib.hid (own_hasv ho)
  have HCp := Lib.hid (own_cap ho)
  obtain ⟨xs, hxs⟩ : ∃ y, w1.heap.size = y := ⟨_, rfl⟩
  rw [hxs] at QS2
  simp only [hxs]
  clear hb ho HB1 QS1 s0 s1 s2 s3 s4 s5 s6 hxs
  have s0 := QS2.out.c0
  have s1 := QS2.out.c1
  have s2 := QS2.out.c2
  have s3 := QS2.out.c3
  have s4 := QS2.out.c4
  have s5 := QS2.out.c5
  have s6 := QS2.out.c6
  go_wp2_with fail
  refine (planS_any l u v a b cc d hi L x HA.out m HM.out _).mono ?_
  rintro e w3 ⟨gw, cw, rfl, ho, hb⟩
  have HB3 := Lib.hid (HB2.out.trans (hb.mono HB2.out.size))
  have QS3 := Lib.hid (QS2.out.all hb)
  have HP3 := Lib.hid ((HP2.out.below hb).more hb.size)
  have HW3 := Lib.hid (own_hasv ho)
  have hxx : (x != x) = false := by simp
  clear hb ho HB2 QS2 HP2 s0 s1 s2 s3 s4 s5 s6
  go_wp2_with fail
  refine (vInt_same _ _ m _ _ _ _ L _ HM.out (by unfold maxLen; omega) HP3.out HW3.out).mono ?_
  rintro e w4 ⟨rfl, hD⟩
  have HB4 := Lib.hid (HB3.out.trans ((hD.below _).mono HB3.out.size))
  have QS4 := Lib.hid (QS3.out.all (hD.below _))
  have HP4 := Lib.hid ((HP3.out.below (hD.below _)).more (hD.below w3.heap.size).size)
  clear hD HB3 QS3 HP3 HW3
  obtain ⟨r, hR⟩ : ∃ r, AnsN (minO ⟨l, u, v, a, b, cc, d⟩ hi) r x ∧ (x = true → r = (minL ⟨l, u, v, a, b, cc, d⟩ hi : Int)) := by
    unfold minO
    rcases HA.out with ⟨h, -, rfl⟩ | ⟨h, -, rfl⟩
    · rw [if_pos h]
      exact ⟨_, .inl ⟨rfl, rfl⟩, fun _ => rfl⟩
    · rw [h]
      exact ⟨0, .inr ⟨rfl, rfl, rfl⟩, fun h => by cases h⟩
  have HR := Lib.hid hR
  have hrr : (r != r) = false := by simp
  clear hR
  have s0 := QS4.out.c0
  have s1 := QS4.out.c1
  have s2 := QS4.out.c2
  have s3 := QS4.out.c3
  have s4 := QS4.out.c4
  have s5 := QS4.out.c5
  have s6 := QS4.out.c6
  go_wp2_with fail
  refine (minI_any l u v a b cc d hi r x HR.out.1 _).mono ?_
  rintro e w5 ⟨rfl, hb⟩
  have HB5 := Lib.hid (HB4.out.trans (hb.mono HB4.out.size))
  have QS5 := Lib.hid (QS4.out.all hb)
  have HP5 := Lib.hid ((HP4.out.below hb).more hb.size)
  clear hb HB4 QS4 HP4 s0 s1 s2 s3 s4 s5 s6
  have s0 := QS5.out.c0
  have s1 := QS5.out.c1
  have s2 := QS5.out.c2
  have s3 := QS5.out.c3
  have s4 := QS5.out.c4
  have s5 := QS5.out.c5
  have s6 := QS5.out.c6
  go_wp2_with fail
  refine (minS_any l u v a b cc d hi r x HR.out.1 _).mono ?_
  rintro e w6 ⟨rfl, hb⟩
  have HB6 := Lib.hid (HB5.out.trans (hb.mono HB5.out.size))
  have QS6 := Lib.hid (QS5.out.all hb)
  have HP6 := Lib.hid ((HP5.out.below hb).more hb.size)
  clear hb HB5 QS5 HP5 s0 s1 s2 s3 s4 s5 s6
  cases x with
  | false =>
    have HBz := HB6
    clear HA HR HB6 QS6 HP6 HCp hxx hrr
    go_wp2_with fail
    refine (drawWater c (HC.out.on HBz.out)).mono ?_
    rintro e w11 ⟨l, u, v, a, b, cc, d, g1, q, c1, rfl, hq61, ⟨L1, hg, ho⟩, hb⟩
    have hLq : L1.length = q := by have := ho.1; simpa using this
    have HLq := Lib.hid hLq
    have HHas := Lib.hid (own_hasv ho)
    have HCap := Lib.hid (own_cap ho)
    obtain ⟨r, y, hR⟩ := ansN_ex (waterO ⟨l, u, v, a, b, cc, d⟩ L1 q)
    have HR := Lib.hid hR
    have HB11 := Lib.hid ((HBz.out.trans (hb.mono HBz.out.size)).alloc (HBz.out.trans (hb.mono HBz.out.size)).size (.cells #[.int .i64 l, .int .i64 u, .int .i64 v, .bool a, .bool b, .bool cc, .bool d] 23))
    have QX := Lib.hid (BoxL.new w11 l u v a b cc d)
    have hqm : q ≤ maxLen := by unfold maxLen; omega
    clear hb ho hg hR hLq HBz
    have s0 := QX.out.c0
    have s1 := QX.out.c1
    have s2 := QX.out.c2
    have s3 := QX.out.c3
    have s4 := QX.out.c4
    have s5 := QX.out.c5
    have s6 := QX.out.c6
    go_wp2_with fail
    refine (waterI_any l u v a b cc d ⟨g1, 0, none⟩ q c1 w11.heap.size L1 r y HR.out _ HLq.out hqm HCap.out.1 HCap.out.2 (by simp) (HHas.out.alloc (Nat.le_refl _) _)).mono ?_
    rintro e w12 ⟨rfl, hb⟩
    have HB12 := Lib.hid (HB11.out.trans (hb.mono HB11.out.size))
    have QX2 := Lib.hid (QX.out.all hb)
    have h12 : w11.heap.size ≤ w12.heap.size := by have := hb.size; simp at this; omega
    have HHas2 := Lib.hid ((HHas.out.alloc (Nat.le_refl _) (.cells #[.int .i64 l, .int .i64 u, .int .i64 v, .bool a, .bool b, .bool cc, .bool d] 23)).below (hb.mono (by simp)))
    obtain ⟨xx, hxx⟩ : ∃ z, w11.heap.size = z := ⟨_, rfl⟩
    rw [hxx] at QX2 HHas2 h12
    simp only [hxx]
    clear hb HB11 QX HHas s0 s1 s2 s3 s4 s5 s6 hxx
    have s0 := QX2.out.c0
    have s1 := QX2.out.c1
    have s2 := QX2.out.c2
    have s3 := QX2.out.c3
    have s4 := QX2.out.c4
    have s5 := QX2.out.c5
    have s6 := QX2.out.c6
    go_wp2_with fail
    refine (waterS_any l u v a b cc d (some ⟨g1, 0, none⟩) q c1 xx L1 r y HR.out _ HLq.out hqm h12 HHas2.out).mono ?_
    rintro e w13 ⟨rfl, hb⟩
    have HB13 := Lib.hid (HB12.out.trans (hb.mono HB12.out.size))
    have hrr : (r != r) = false := by simp
    have hyy : (y != y) = false := by simp
    clear hb HB12 QX2 HHas2 HR HLq HCap s0 s1 s2 s3 s4 s5 s6
    go_wp2_with fail
    refine (drawHead c (HC.out.on HB13.out)).mono ?_
    rintro e w14 ⟨l, u, v, a, b, cc, d, hj, rfl, hb⟩
    obtain ⟨r2, y2, hR⟩ := ansN_ex (headO ⟨l, u, v, a, b, cc, d⟩ hj)
    have HR := Lib.hid hR
    have HB14 := Lib.hid ((HB13.out.trans (hb.mono HB13.out.size)).alloc (HB13.out.trans (hb.mono HB13.out.size)).size (.cells #[.int .i64 l, .int .i64 u, .int .i64 v, .bool a, .bool b, .bool cc, .bool d] 23))
    have QX := Lib.hid (BoxL.new w14 l u v a b cc d)
    clear hb hR HB13
    have s0 := QX.out.c0
    have s1 := QX.out.c1
    have s2 := QX.out.c2
    have s3 := QX.out.c3
    have s4 := QX.out.c4
    have s5 := QX.out.c5
    have s6 := QX.out.c6
    go_wp2_with fail
    refine (headI_any l u v a b cc d hj r2 y2 HR.out _).mono ?_
    rintro e w15 ⟨rfl, hb⟩
    have HB15 := Lib.hid (HB14.out.trans (hb.mono HB14.out.size))
    have QX2 := Lib.hid (QX.out.all hb)
    clear hb HB14 QX s0 s1 s2 s3 s4 s5 s6
    have s0 := QX2.out.c0
    have s1 := QX2.out.c1
    have s2 := QX2.out.c2
    have s3 := QX2.out.c3
    have s4 := QX2.out.c4
    have s5 := QX2.out.c5
    have s6 := QX2.out.c6
    go_wp2_with fail
    refine (headS_any l u v a b cc d hj r2 y2 HR.out _).mono ?_
    rintro e w16 ⟨rfl, hb⟩
    have HB16 := Lib.hid (HB15.out.trans (hb.mono HB15.out.size))
    have hrr2 : (r2 == r2) = true := by simp
    clear hb HB15 QX2 HR s0 s1 s2 s3 s4 s5 s6
    go_wp2_with fail
    refine bodyPost_ret (results_tmp rfl _ _ _) rfl ?_
    exact ⟨ret_bool (by simp), HB16.out⟩
  | true =>
    rcases HA.out with ⟨hg, hL, -⟩ | ⟨-, -, h⟩
    rotate_left
    · cases h
    have hr := HR.out.2 rfl
    obtain ⟨⟨T0, T1, T2, T3, T4, T5, T6⟩, hrun, hgT, hgate, hpT, hrise⟩ := plan_run hg hi
    have hcnt := plan_cnt_eq hg hi
    rw [← hL] at hrun hrise hcnt
    rw [HM.out] at hrun
    have hcr : ((cnt9 L : Nat) : Int) = r := by rw [hcnt]; exact hr.symm
    obtain ⟨rs, hrs⟩ : ∃ z, riseL ⟨l, u, v, a, b, cc, d⟩ L = z := ⟨_, rfl⟩
    have HRun := Lib.hid (show AnsR (goodL ⟨l, u, v, a, b, cc, d⟩ = true ∧ m ≤ 60) (runL ⟨l, u, v, a, b, cc, d⟩ L) T0 T1 T2 T3 T4 T5 T6 (m : Int) true from .inl ⟨⟨hg, by omega⟩, by rw [hrun], by rw [hrun], rfl⟩)
    have HWat := Lib.hid (show AnsN (waterO ⟨l, u, v, a, b, cc, d⟩ L m) rs true from .inl ⟨by unfold waterO; rw [if_pos ⟨hg, by omega⟩, hrs], rfl⟩)
    have HTP := Lib.hid (show AnsP ⟨T0, T1, T2, T3, T4, T5, T6⟩ hi [] true from .inl ⟨hgT, hpT.symm, rfl⟩)
    rw [hrs] at hrise
    have hlv := goodL_levs hgT
    have hlw := goodL_levs hg
    dsimp only at hlv hlw hrise
    obtain ⟨lv0, lv1, lv2, lv3⟩ := hlv
    obtain ⟨lw0, lw1, lw2, lw3⟩ := hlw
    have HRise := Lib.hid hrise
    have HGate := Lib.hid hgate
    have HCr := Lib.hid hcr
    have hmm : m ≤ maxLen := by unfold maxLen; omega
    clear HA HR hg hL hr hrun hgT hgate hpT hrise hcnt hcr hrs
    have s0 := QS6.out.c0
    have s1 := QS6.out.c1
    have s2 := QS6.out.c2
    have s3 := QS6.out.c3
    have s4 := QS6.out.c4
    have s5 := QS6.out.c5
    have s6 := QS6.out.c6
    go_wp2_with fail
    refine (runI_any l u v a b cc d (some ⟨gp, 0, none⟩) m cp w6.heap.size L T0 T1 T2 T3 T4 T5 T6 m true HRun.out _ HM.out hmm (Nat.le_refl _) HP6.out).mono ?_
    rintro e w7 ⟨rfl, hb⟩
    have HB7 := Lib.hid ((HB6.out.trans (hb.mono HB6.out.size)).alloc (HB6.out.trans (hb.mono HB6.out.size)).size (.cells #[.int .i64 T0, .int .i64 T1, .int .i64 T2, .bool T3, .bool T4, .bool T5, .bool T6] 23))
    have QS7 := Lib.hid ((QS6.out.all hb).all (below1 w7 (.cells #[.int .i64 T0, .int .i64 T1, .int .i64 T2, .bool T3, .bool T4, .bool T5, .bool T6] 23)))
    have QT7 := Lib.hid (BoxL.new w7 T0 T1 T2 T3 T4 T5 T6)
    have HP7 := Lib.hid (((HP6.out.below hb).more hb.size).alloc (Nat.le_refl _) (.cells #[.int .i64 T0, .int .i64 T1, .int .i64 T2, .bool T3, .bool T4, .bool T5, .bool T6] 23))
    clear hb HB6 QS6 HP6 HRun s0 s1 s2 s3 s4 s5 s6
    have s0 := QS7.out.c0
    have s1 := QS7.out.c1
    have s2 := QS7.out.c2
    have s3 := QS7.out.c3
    have s4 := QS7.out.c4
    have s5 := QS7.out.c5
    have s6 := QS7.out.c6
    go_wp2_with fail
    refine (waterI_any l u v a b cc d ⟨gp, 0, none⟩ m cp w7.heap.size L rs true HWat.out _ HM.out hmm HCp.out.1 HCp.out.2 (by simp) HP7.out).mono ?_
    rintro e w8 ⟨rfl, hb⟩
    have HB8 := Lib.hid (HB7.out.trans (hb.mono HB7.out.size))
    have QS8 := Lib.hid (QS7.out.all hb)
    have QT8 := Lib.hid (QT7.out.all hb)
    have HP8 := Lib.hid (HP7.out.below (hb.mono (by simp)))
    obtain ⟨xt, hxt⟩ : ∃ y, w7.heap.size = y := ⟨_, rfl⟩
    rw [hxt] at QT8 HP8
    simp only [hxt]
    clear hb HB7 QS7 QT7 HP7 HWat hxt s0 s1 s2 s3 s4 s5 s6
    go_wp2_with fail
    go_loop [18, 19] (fun q i => ∃ k : Nat, k ≤ m ∧ i = .int .i64 k ∧ q = .int .i64 ((cnt9 (L.take k) : Nat) : Int)) (fun _ i => m - (intOf i).toNat)
    case atStart => exact ⟨0, Nat.zero_le _, rfl, rfl⟩
    case round =>
      obtain ⟨k, hk, rfl, rfl⟩ := hrel
      have hcle : cnt9 (L.take k) ≤ 44 := by have := cnt9_le (L.take k); rw [List.length_take] at this; omega
      by_cases hlt : k < m
      · have hkl : k < L.length := by rw [HM.out]; exact hlt
        obtain ⟨a1, hae, -, e1⟩ := HP8.out.intAt hkl
        injection hae with hae
        subst hae
        have HST := Lib.hid (cnt9_step L k hkl)
        have e2 : w8.cell? ⟨gp, k, none⟩ = some (.int .i64 L[k]) := by
          have : (⟨gp, 0, none⟩ : Addr).add k = ⟨gp, k, none⟩ := by unfold Addr.add; split <;> simp_all
          rw [this] at e1
          exact e1
        clear e1
        generalize L[k] = z at e2 HST
        obtain ⟨cn, hcn⟩ : ∃ y, cnt9 (L.take k) = y := ⟨_, rfl⟩
        rw [hcn] at HST hcle ⊢
        have hk0 : (0 : Int) ≤ (k : Int) := by omega
        have hk1 : (k : Int) < (m : Int) := by omega
        have hc44 : (cn : Int) ≤ 44 := by omega
        clear hcn hkl
        by_cases hz : z = 9
        · subst hz
          have HN := Lib.hid (HST.out.trans (by rw [if_pos rfl]) : cnt9 (L.take (k + 1)) = cn + 1)
          clear HST
          go_wp2_with fail
          go_round
          case rel => exact ⟨k + 1, by omega, by go_num, by rw [HN.out]; go_num⟩
          case measure => simp [intOf]; omega
        · have HN := Lib.hid (HST.out.trans (by rw [if_neg hz]; rfl) : cnt9 (L.take (k + 1)) = cn)
          have hz9 : (z == 9) = false := by simp [hz]
          clear HST hz
          go_wp2_with fail
          go_round
          case rel => exact ⟨k + 1, by omega, by go_num, by rw [HN.out]⟩
          case measure => simp [intOf]; omega
      · obtain rfl : k = m := by omega
        have hcl : cnt9 (L.take k) = cnt9 L := by rw [List.take_of_length_le (by rw [HM.out]; omega)]
        have hcr := HCr.out
        rw [hcl]
        rw [hcr]
        clear hcl hcr hcle HCr
        cases hi with
        | true =>
          obtain rfl : T4 = true := by simpa [gateL] using HGate.out
          obtain rfl : rs = T2 - v := by simpa using HRise.out
          clear HGate HRise
          have s0 := QS8.out.c0
          have s1 := QS8.out.c1
          have s2 := QS8.out.c2
          have s3 := QS8.out.c3
          have s4 := QS8.out.c4
          have s5 := QS8.out.c5
          have s6 := QS8.out.c6
          have t0 := QT8.out.c0
          have t1 := QT8.out.c1
          have t2 := QT8.out.c2
          have t3 := QT8.out.c3
          have t4 := QT8.out.c4
          have t5 := QT8.out.c5
          have t6 := QT8.out.c6
          go_wp2_with fail
          refine (planI_any _ _ _ _ _ _ _ _ _ _ HTP.out 0 rfl _).mono ?_
          rintro e w9 ⟨ga, ca, rfl, -, hb⟩
          have HBz := Lib.hid (HB8.out.trans (hb.mono HB8.out.size))
          clear hb HB8 QS8 QT8 HP8 HCp HTP s0 s1 s2 s3 s4 s5 s6 t0 t1 t2 t3 t4 t5 t6
          go_wp2_with fail
          refine (drawWater c (HC.out.on HBz.out)).mono ?_
          rintro e w11 ⟨l, u, v, a, b, cc, d, g1, q, c1, rfl, hq61, ⟨L1, hg, ho⟩, hb⟩
          have hLq : L1.length = q := by have := ho.1; simpa using this
          have HLq := Lib.hid hLq
          have HHas := Lib.hid (own_hasv ho)
          have HCap := Lib.hid (own_cap ho)
          obtain ⟨r, y, hR⟩ := ansN_ex (waterO ⟨l, u, v, a, b, cc, d⟩ L1 q)
          have HR := Lib.hid hR
          have HB11 := Lib.hid ((HBz.out.trans (hb.mono HBz.out.size)).alloc (HBz.out.trans (hb.mono HBz.out.size)).size (.cells #[.int .i64 l, .int .i64 u, .int .i64 v, .bool a, .bool b, .bool cc, .bool d] 23))
          have QX := Lib.hid (BoxL.new w11 l u v a b cc d)
          have hqm : q ≤ maxLen := by unfold maxLen; omega
          clear hb ho hg hR hLq HBz
          have s0 := QX.out.c0
          have s1 := QX.out.c1
          have s2 := QX.out.c2
          have s3 := QX.out.c3
          have s4 := QX.out.c4
          have s5 := QX.out.c5
          have s6 := QX.out.c6
          go_wp2_with fail
          refine (waterI_any l u v a b cc d ⟨g1, 0, none⟩ q c1 w11.heap.size L1 r y HR.out _ HLq.out hqm HCap.out.1 HCap.out.2 (by simp) (HHas.out.alloc (Nat.le_refl _) _)).mono ?_
          rintro e w12 ⟨rfl, hb⟩
          have HB12 := Lib.hid (HB11.out.trans (hb.mono HB11.out.size))
          have QX2 := Lib.hid (QX.out.all hb)
          have h12 : w11.heap.size ≤ w12.heap.size := by have := hb.size; simp at this; omega
          have HHas2 := Lib.hid ((HHas.out.alloc (Nat.le_refl _) (.cells #[.int .i64 l, .int .i64 u, .int .i64 v, .bool a, .bool b, .bool cc, .bool d] 23)).below (hb.mono (by simp)))
          obtain ⟨xx, hxx⟩ : ∃ z, w11.heap.size = z := ⟨_, rfl⟩
          rw [hxx] at QX2 HHas2 h12
          simp only [hxx]
          clear hb HB11 QX HHas s0 s1 s2 s3 s4 s5 s6 hxx
          have s0 := QX2.out.c0
          have s1 := QX2.out.c1
          have s2 := QX2.out.c2
          have s3 := QX2.out.c3
          have s4 := QX2.out.c4
          have s5 := QX2.out.c5
          have s6 := QX2.out.c6
          go_wp2_with fail
          refine (waterS_any l u v a b cc d (some ⟨g1, 0, none⟩) q c1 xx L1 r y HR.out _ HLq.out hqm h12 HHas2.out).mono ?_
          rintro e w13 ⟨rfl, hb⟩
          have HB13 := Lib.hid (HB12.out.trans (hb.mono HB12.out.size))
          have hrr : (r != r) = false := by simp
          have hyy : (y != y) = false := by simp
          clear hb HB12 QX2 HHas2 HR HLq HCap s0 s1 s2 s3 s4 s5 s6
          go_wp2_with fail
          refine (drawHead c (HC.out.on HB13.out)).mono ?_
          rintro e w14 ⟨l, u, v, a, b, cc, d, hj, rfl, hb⟩
          obtain ⟨r2, y2, hR⟩ := ansN_ex (headO ⟨l, u, v, a, b, cc, d⟩ hj)
          have HR := Lib.hid hR
          have HB14 := Lib.hid ((HB13.out.trans (hb.mono HB13.out.size)).alloc (HB13.out.trans (hb.mono HB13.out.size)).size (.cells #[.int .i64 l, .int .i64 u, .int .i64 v, .bool a, .bool b, .bool cc, .bool d] 23))
          have QX := Lib.hid (BoxL.new w14 l u v a b cc d)
          clear hb hR HB13
          have s0 := QX.out.c0
          have s1 := QX.out.c1
          have s2 := QX.out.c2
          have s3 := QX.out.c3
          have s4 := QX.out.c4
          have s5 := QX.out.c5
          have s6 := QX.out.c6
          go_wp2_with fail
          refine (headI_any l u v a b cc d hj r2 y2 HR.out _).mono ?_
          rintro e w15 ⟨rfl, hb⟩
          have HB15 := Lib.hid (HB14.out.trans (hb.mono HB14.out.size))
          have QX2 := Lib.hid (QX.out.all hb)
          clear hb HB14 QX s0 s1 s2 s3 s4 s5 s6
          have s0 := QX2.out.c0
          have s1 := QX2.out.c1
          have s2 := QX2.out.c2
          have s3 := QX2.out.c3
          have s4 := QX2.out.c4
          have s5 := QX2.out.c5
          have s6 := QX2.out.c6
          go_wp2_with fail
          refine (headS_any l u v a b cc d hj r2 y2 HR.out _).mono ?_
          rintro e w16 ⟨rfl, hb⟩
          have HB16 := Lib.hid (HB15.out.trans (hb.mono HB15.out.size))
          have hrr2 : (r2 == r2) = true := by simp
          clear hb HB15 QX2 HR s0 s1 s2 s3 s4 s5 s6
          go_wp2_with fail
          refine bodyPost_ret (results_tmp rfl _ _ _) rfl ?_
          exact ⟨ret_bool (by simp), HB16.out⟩
        | false =>
          obtain rfl : T3 = true := by simpa [gateL] using HGate.out
          obtain rfl : rs = 0 := by simpa using HRise.out
          clear HGate HRise
          have s0 := QS8.out.c0
          have s1 := QS8.out.c1
          have s2 := QS8.out.c2
          have s3 := QS8.out.c3
          have s4 := QS8.out.c4
          have s5 := QS8.out.c5
          have s6 := QS8.out.c6
          have t0 := QT8.out.c0
          have t1 := QT8.out.c1
          have t2 := QT8.out.c2
          have t3 := QT8.out.c3
          have t4 := QT8.out.c4
          have t5 := QT8.out.c5
          have t6 := QT8.out.c6
          go_wp2_with fail
          refine (planI_any _ _ _ _ _ _ _ _ _ _ HTP.out 0 rfl _).mono ?_
          rintro e w9 ⟨ga, ca, rfl, -, hb⟩
          have HBz := Lib.hid (HB8.out.trans (hb.mono HB8.out.size))
          clear hb HB8 QS8 QT8 HP8 HCp HTP s0 s1 s2 s3 s4 s5 s6 t0 t1 t2 t3 t4 t5 t6
          go_wp2_with fail
          refine (drawWater c (HC.out.on HBz.out)).mono ?_
          rintro e w11 ⟨l, u, v, a, b, cc, d, g1, q, c1, rfl, hq61, ⟨L1, hg, ho⟩, hb⟩
          have hLq : L1.length = q := by have := ho.1; simpa using this
          have HLq := Lib.hid hLq
          have HHas := Lib.hid (own_hasv ho)
          have HCap := Lib.hid (own_cap ho)
          obtain ⟨r, y, hR⟩ := ansN_ex (waterO ⟨l, u, v, a, b, cc, d⟩ L1 q)
          have HR := Lib.hid hR
          have HB11 := Lib.hid ((HBz.out.trans (hb.mono HBz.out.size)).alloc (HBz.out.trans (hb.mono HBz.out.size)).size (.cells #[.int .i64 l, .int .i64 u, .int .i64 v, .bool a, .bool b, .bool cc, .bool d] 23))
          have QX := Lib.hid (BoxL.new w11 l u v a b cc d)
          have hqm : q ≤ maxLen := by unfold maxLen; omega
          clear hb ho hg hR hLq HBz
          have s0 := QX.out.c0
          have s1 := QX.out.c1
          have s2 := QX.out.c2
          have s3 := QX.out.c3
          have s4 := QX.out.c4
          have s5 := QX.out.c5
          have s6 := QX.out.c6
          go_wp2_with fail
          refine (waterI_any l u v a b cc d ⟨g1, 0, none⟩ q c1 w11.heap.size L1 r y HR.out _ HLq.out hqm HCap.out.1 HCap.out.2 (by simp) (HHas.out.alloc (Nat.le_refl _) _)).mono ?_
          rintro e w12 ⟨rfl, hb⟩
          have HB12 := Lib.hid (HB11.out.trans (hb.mono HB11.out.size))
          have QX2 := Lib.hid (QX.out.all hb)
          have h12 : w11.heap.size ≤ w12.heap.size := by have := hb.size; simp at this; omega
          have HHas2 := Lib.hid ((HHas.out.alloc (Nat.le_refl _) (.cells #[.int .i64 l, .int .i64 u, .int .i64 v, .bool a, .bool b, .bool cc, .bool d] 23)).below (hb.mono (by simp)))
          obtain ⟨xx, hxx⟩ : ∃ z, w11.heap.size = z := ⟨_, rfl⟩
          rw [hxx] at QX2 HHas2 h12
          simp only [hxx]
          clear hb HB11 QX HHas s0 s1 s2 s3 s4 s5 s6 hxx
          have s0 := QX2.out.c0
          have s1 := QX2.out.c1
          have s2 := QX2.out.c2
          have s3 := QX2.out.c3
          have s4 := QX2.out.c4
          have s5 := QX2.out.c5
          have s6 := QX2.out.c6
          go_wp2_with fail
          refine (waterS_any l u v a b cc d (some ⟨g1, 0, none⟩) q c1 xx L1 r y HR.out _ HLq.out hqm h12 HHas2.out).mono ?_
          rintro e w13 ⟨rfl, hb⟩
          have HB13 := Lib.hid (HB12.out.trans (hb.mono HB12.out.size))
          have hrr : (r != r) = false := by simp
          have hyy : (y != y) = false := by simp
          clear hb HB12 QX2 HHas2 HR HLq HCap s0 s1 s2 s3 s4 s5 s6
          go_wp2_with fail
          refine (drawHead c (HC.out.on HB13.out)).mono ?_
          rintro e w14 ⟨l, u, v, a, b, cc, d, hj, rfl, hb⟩
          obtain ⟨r2, y2, hR⟩ := ansN_ex (headO ⟨l, u, v, a, b, cc, d⟩ hj)
          have HR := Lib.hid hR
          have HB14 := Lib.hid ((HB13.out.trans (hb.mono HB13.out.size)).alloc (HB13.out.trans (hb.mono HB13.out.size)).size (.cells #[.int .i64 l, .int .i64 u, .int .i64 v, .bool a, .bool b, .bool cc, .bool d] 23))
          have QX := Lib.hid (BoxL.new w14 l u v a b cc d)
          clear hb hR HB13
          have s0 := QX.out.c0
          have s1 := QX.out.c1
          have s2 := QX.out.c2
          have s3 := QX.out.c3
          have s4 := QX.out.c4
          have s5 := QX.out.c5
          have s6 := QX.out.c6
          go_wp2_with fail
          refine (headI_any l u v a b cc d hj r2 y2 HR.out _).mono ?_
          rintro e w15 ⟨rfl, hb⟩
          have HB15 := Lib.hid (HB14.out.trans (hb.mono HB14.out.size))
          have QX2 := Lib.hid (QX.out.all hb)
          clear hb HB14 QX s0 s1 s2 s3 s4 s5 s6
          have s0 := QX2.out.c0
          have s1 := QX2.out.c1
          have s2 := QX2.out.c2
          have s3 := QX2.out.c3
          have s4 := QX2.out.c4
          have s5 := QX2.out.c5
          have s6 := QX2.out.c6
          go_wp2_with fail
          refine (headS_any l u v a b cc d hj r2 y2 HR.out _).mono ?_
          rintro e w16 ⟨rfl, hb⟩
          have HB16 := Lib.hid (HB15.out.trans (hb.mono HB15.out.size))
          have hrr2 : (r2 == r2) = true := by simp
          clear hb HB15 QX2 HR s0 s1 s2 s3 s4 s5 s6
          go_wp2_with fail
          refine bodyPost_ret (results_tmp rfl _ _ _) rfl ?_
          exact ⟨ret_bool (by simp), HB16.out⟩
theorem own : ownKnob Try.prog.godebug = none := by kernel_rfl
theorem laidOut : laidOutB Try.prog = true := by kernel_rfl

set_option maxRecDepth 100000 in
theorem lifted (os : Os) (started : os.Started) (H : Type) (enc : TypeId × Value → H) :
    ReturnsInHanded {} Try.checked os 12 .any (Rows.fnLockPlansSpec.pre6 enc Try.prog Try.f12 Rows.fnLockPlansRow.domain false) (Rows.fnLockPlansSpec.post enc Try.prog Try.f12 false true false false) := by
  refine returnsInHanded_of_change (C := Try.checked) own started (by kernel_rfl) Try.func12
    (ChangeSpec.witness6 (enc := enc) (C := Try.checked) false ⟨#[], #[.slice none 0 0], []⟩ 8 (by kernel_rfl) (by kernel_rfl) (by kernel_rfl) (by kernel_rfl)) ?_
  intro W base args ds gs before hval0 hW hcnd _
  have hval : ∀ (j : Nat) t v, Try.f12.params[j]? = some t → args[j]? = some v → Value.okWide Try.prog W .any base t v := hval0
  have hW' := hW
  obtain ⟨p, q, hA0, hV, rfl, hfz, hnd⟩ := hW
  have hA : DataW.TrodAll enc Try.prog W 0 (fun _ => true) true Try.f12.params.toList args.toList ds p := hA0
  rw [Try.params12] at hA hval
  obtain ⟨v0, vs0, d0, ds0, p0, q0, hargs, rfl, rfl, h0, r0⟩ := trodAll_cons hA
  obtain ⟨rfl, rfl, rfl⟩ := trodAll_nil r0
  obtain rfl : args = #[v0] := by cases args; simp_all
  obtain ⟨rfl, rfl⟩ := trodVars_none hV
  obtain ⟨a0, len0, cap0, rfl⟩ := okWide_slice Try.underlying47 (hval 0 47 v0 rfl rfl)
  have k0 := h0
  have lt0 : ∀ x ∈ p0, x.block < W.heap.size := by obtain ⟨m, hm⟩ := k0; exact DataW.trod_lt m _ _ _ hm
  obtain ⟨z0, w0⟩ : ∃ zs, IsInts .u8 W a0 len0 zs := by
    obtain ⟨fuel, hf⟩ := h0
    rcases open_ints Try.underlying47 Try.underlying5 (by kernel_rfl) hf with ⟨hcs, _⟩ | ⟨x, l, c, zs, hcs, _, hl, hm, hz, _, hcell, hwz⟩
    · simp [Value.cells] at hcs
      obtain ⟨rfl, rfl, rfl⟩ := hcs
      exact ⟨[], isInts_nil _ W⟩
    · simp [Value.cells] at hcs
      obtain ⟨rfl, rfl, rfl⟩ := hcs
      exact ⟨_, isInts_some hl hm (by simpa using hz) hcell hwz⟩
  clear hA0 hval0
  refine (walk a0 len0 cap0 z0 W w0).mono fun e W' ⟨he, bel⟩ => ?_
  subst he
  exact ⟨_, rfl, _, _, _, [], _, [], hW', trodAll_mk1 (shut_bool Try.underlying4 _), (trodAll_cons_mk (Below.trod laidOut (by kernel_rfl) (of_decide_eq_true (by kernel_rfl)) k0 bel lt0) trodAll_mk0), rfl, bel.frame _, fun h => by cases h⟩

theorem over : Rows.fnLockPlansRow.holds Try.pinned (OpenSpec.ofChange Rows.fnLockPlansSpec) :=
  OpenClaim.holds_of_wide 12 Try.f12 rfl rfl rfl rfl rfl rfl rfl ⟨rfl, rfl, rfl, rfl, rfl⟩ rfl rfl rfl rfl rfl (by kernel_rfl) Try.func12 (by kernel_rfl)
    (of_decide_eq_true (by kernel_rfl)) (by unfold Func.isWrapper; first | (rw [if_pos (by decide +kernel)]; kernel_rfl) | (rw [if_neg (by decide +kernel)]; exact ⟨rfl, rfl⟩))
    (fun os started H enc _ => lifted os started H enc)

/-- The statement. -/
theorem proved : Rows.FnLockPlansSaid := over
end Go.Proofs.Ytmnagjjpncancaa.fnLockPlans
