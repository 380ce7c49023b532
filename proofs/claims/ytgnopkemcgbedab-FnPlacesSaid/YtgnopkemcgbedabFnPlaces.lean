/- FnPlaces holds: the same locks on the way back in reverse order, minutes add up; at every list of bytes. -/
import Derived.Test.YtgnopkemcgbedabPlN
import Derived.Test.YtgnopkemcgbedabBig
import Derived.Test.YtgnopkemcgbedabSt0
import Derived.Test.YtgnopkemcgbedabVInt
import Derived.OpenShut
import Derived.ShutString
import Derived.ChangeOld
import Derived.WalkLawsBesides
import Derived.Lib.SmallJoins
namespace Go.Proofs.Ytgnopkemcgbedab.fnPlaces
open Go.ChangeShapes Go.WideShapes Go.ChangeAt Go.RowKit Go.PlainAid Go.Sort
open Go.ChangeMaps (open_string shut_string)
set_option linter.unusedVariables false
set_option linter.unusedSimpArgs false

set_option maxRecDepth 100000 in
set_option maxHeartbeats 8000000 in
theorem walk (A : Option Addr) (n c : Nat) (zs : List Int) (w : World) (hI : IsInts .u8 w A n zs) :
    Calls Try.prog 3 #[.slice A n c] w fun e w' => e = .returned (.bool true) ∧ Below w.heap.size w w' := by
  by_cases hbig : 65536 < n
  · have CB := Lib.hid (fun W => bigL_yes A n c W hbig hI.2.1)
    clear hI
    go_enter Try.func3, Try.ntmps3
    go_wp2_with fail
    refine (CB.out _).mono ?_
    rintro e w0 ⟨rfl, rfl⟩
    go_wp2_with fail
    go_ret
    exact ⟨rfl, Below.refl _ _⟩
  have HC := Lib.hid (Code_.of hI (by omega))
  have CB := Lib.hid (fun W => bigL_no A n c W (by omega))
  have HB0 := Lib.hid (Below.refl w.heap.size w)
  clear hI hbig
  go_enter Try.func3, Try.ntmps3
  go_wp2_with fail
  refine (CB.out _).mono ?_
  rintro e w0 ⟨rfl, rfl⟩
  clear CB
  go_wp2_with fail
  refine (drawLks_any c HC.out).mono ?_
  rintro e w1 ⟨g1, nR, c1, A2, nZ, c2, R, Z, x, y, hd, hx, hy, rfl⟩
  have hn7 := hd.n7
  have hk1 := hd.c1
  have hk2 := hd.c2
  have hnm : nR ≤ maxLen := by unfold maxLen; omega
  have HB1 := Lib.hid ((HB0.out.trans (hd.bel.mono HB0.out.size)).alloc (HB0.out.trans (hd.bel.mono HB0.out.size)).size (wayO (.slice (some ⟨g1, 0, none⟩) nR c1) (.slice A2 nZ c2)))
  have Q1 := Lib.hid hd.wb
  have hRl := hd.way.len
  clear hd HB0
  obtain ⟨L, yb, hL6, CS, CI, CJ⟩ := lks_ex nR nZ R Z x y hRl hnm
  have CS := Lib.hid CS
  have CI := Lib.hid CI
  have CJ := Lib.hid CJ
  obtain ⟨M, hM⟩ : ∃ M, L.reverse = M := ⟨_, rfl⟩
  obtain ⟨q, hq⟩ : ∃ q, L.length = q := ⟨_, rfl⟩
  have hqM : M.length = q := by rw [← hM, List.length_reverse, hq]
  have HM := Lib.hid hM
  rw [hM] at CJ
  rw [hq] at hL6
  clear hM
  have k0 := Q1.out.cA
  have k1 := Q1.out.cB
  go_wp2_with fail
  refine (CI.out _ _ _ _ c1 c2 Q1.out.way).mono ?_
  rintro e w2 ⟨ga, ca, rfl, hga, hoa, hb⟩
  have HA := Lib.hid (own_hasv hoa)
  -- a call whose world lies above: the box and the waterway stay
  have HB2 := Lib.hid (HB1.out.trans (hb.mono HB1.out.size))
  have Q2 := Lib.hid (Q1.out.below hb)
  clear hb HB1 Q1 k0 k1
  have k0 := Q2.out.cA
  have k1 := Q2.out.cB
  clear hoa CI
  rw [hq]
  go_wp2_with fail
  refine (CJ.out _ _ _ _ c1 c2 Q2.out.way).mono ?_
  rintro e w3 ⟨gb, cb, rfl, hgb, hob, hb⟩
  have HA3 := Lib.hid (HA.out.below hb)
  have HE := Lib.hid (own_hasv hob)
  have h23 := hb.size
  -- a call whose world lies above: the box and the waterway stay
  have HB3 := Lib.hid (HB2.out.trans (hb.mono HB2.out.size))
  have Q3 := Lib.hid (Q2.out.below hb)
  clear hb HB2 Q2 k0 k1
  have k0 := Q3.out.cA
  have k1 := Q3.out.cB
  clear hob CJ HA
  rw [hqM]
  go_wp2_with fail
  refine (CS.out _ _ _ _ c1 c2 Q3.out.way).mono ?_
  rintro e w4 ⟨gc, cc, rfl, hgc, hoc, hb⟩
  have HA4 := Lib.hid (HA3.out.below (hb.mono h23))
  have HE4 := Lib.hid (HE.out.below hb)
  have HF4 := Lib.hid (own_hasv hoc)
  have h34 := hb.size
  -- a call whose world lies above: the box and the waterway stay
  have HB4 := Lib.hid (HB3.out.trans (hb.mono HB3.out.size))
  have Q4 := Lib.hid (Q3.out.below hb)
  clear hb HB3 Q3 k0 k1
  have k0 := Q4.out.cA
  have k1 := Q4.out.cB
  clear hoc CS HA3 HE
  rw [hq]
  have hyy : (yb != yb) = false := by simp
  have hqq : ((q : Int) != (q : Int)) = false := by simp
  go_wp2_with fail
  refine (vInt_same (some ⟨ga, 0, none⟩) (some ⟨gc, 0, none⟩) q ca cc _ _ L _ hq (by unfold maxLen; omega) HA4.out HF4.out).mono ?_
  rintro e w5 ⟨rfl, hD⟩
  have hb := hD.below w4.heap.size
  have hga4 : w2.heap.size ≤ w4.heap.size := Nat.le_trans h23 h34
  have HA5 := Lib.hid (HA4.out.below (hb.mono hga4))
  have HE5 := Lib.hid (HE4.out.below (hb.mono h34))
  have h45 := hb.size
  -- a call whose world lies above: the box and the waterway stay
  have HB5 := Lib.hid (HB4.out.trans (hb.mono HB4.out.size))
  have Q5 := Lib.hid (Q4.out.below hb)
  clear hb HB4 Q4 k0 k1
  have k0 := Q5.out.cA
  have k1 := Q5.out.cB
  clear HA4 HE4 HF4 hD
  have hq5 : q ≤ 6 := hL6
  have HL := Lib.hid hq
  have HQM := Lib.hid hqM
  clear hq hqM
  go_wp2_with fail
  go_loopw [12] (fun i wr => ∃ k : Nat, k ≤ q ∧ i = .int .i64 k ∧ Below w5.heap.size w5 wr) (fun i _ => q - (intOf i).toNat)
  case atStart => exact ⟨0, Nat.zero_le _, rfl, Below.refl _ _⟩
  case round =>
    obtain ⟨k, hk, rfl, hb⟩ := hrel
    by_cases hlt : k < q
    · have hkl : k < L.length := by rw [HL.out]; exact hlt
      obtain ⟨j, hj⟩ : ∃ j : Nat, (q : Int) - 1 - (k : Int) = (j : Int) := ⟨q - 1 - k, by omega⟩
      have hjl : j < M.length := by rw [HQM.out]; omega
      obtain ⟨a1, ha1, _, e1⟩ := (HA5.out.below (hb.mono (Nat.le_trans hga4 h45))).intAt (k := k) hkl
      obtain ⟨a2, ha2, _, e2⟩ := (HE5.out.below (hb.mono (Nat.le_trans h34 h45))).intAt (k := j) hjl
      have hml : M[j] = L[k] := by
        have h1 := HM.out
        subst h1
        rw [List.getElem_reverse]
        congr 1
        have := HL.out
        omega
      rw [hml] at e2
      injection ha1 with ha1
      injection ha2 with ha2
      subst ha1
      subst ha2
      rw [addOW, Nat.zero_add] at e1 e2
      generalize L[k] = z at e1 e2
      have hzz : (z != z) = false := by simp
      have E1 := fun (d : Nat) (os : Array Obj) => cell_regrown e1 d os
      have E2 := fun (d : Nat) (os : Array Obj) => cell_regrown e2 d os
      have hk0 : (0 : Int) ≤ (k : Int) := by omega
      have hk1 : (k : Int) < (q : Int) := by omega
      have hj0 : (0 : Int) ≤ (j : Int) := by omega
      have hj1 : (j : Int) < (q : Int) := by omega
      have HB := Lib.hid hb
      clear hb hml hkl hjl e1 e2 k0 k1
      go_wp2_with fail
      refine wp_region_quiet_below (by kernel_rfl) (by kernel_rfl) ?_
      repeat (go_big_quiet_step (first | fail))
      refine wpQuiet_nil ?_
      intro _ hw'
      obtain ⟨⟨dq, osq⟩, hw''⟩ := hw'
      subst hw''
      have HBx := Lib.hid (HB.out.trans ((below_regrown wr dq osq).mono HB.out.size))
      go_wp2_with fail
      go_roundw
      case rel => exact ⟨k + 1, by omega, by go_num, HBx.out⟩
      case measure => simp [intOf]; omega
    · obtain rfl : k = q := by omega
      have HB0 := Lib.hid (HB5.out.trans (hb.mono HB5.out.size))
      clear HA5 HE5 HM HL HQM HB5 Q5 k0 k1 hlt hb hga4 h23 h34 h45 hyy hqq hga hgb hgc
      clear hn7 hk1 hk2 hnm hRl hx hy
      go_wp2_with fail
      refine (drawRch_any c (HC.out.on HB0.out)).mono ?_
      rintro e w1 ⟨g1, nR, c1, A2, nZ, c2, R, Z, x, hd, hx, rfl⟩
      have hn7 := hd.n7
      have hk1 := hd.c1
      have hk2 := hd.c2
      have hnm : nR ≤ maxLen := by unfold maxLen; omega
      have HB1 := Lib.hid ((HB0.out.trans (hd.bel.mono HB0.out.size)).alloc (HB0.out.trans (hd.bel.mono HB0.out.size)).size (wayO (.slice (some ⟨g1, 0, none⟩) nR c1) (.slice A2 nZ c2)))
      have Q1 := Lib.hid hd.wb
      have hRl := hd.way.len
      clear hd HB0
      obtain ⟨i, t, CS, CI⟩ := two_ReachAt nR nZ R Z x hnm (wf_i64 hx)
      have CS := Lib.hid CS
      have CI := Lib.hid CI
      have k0 := Q1.out.cA
      have k1 := Q1.out.cB
      go_wp2_with fail
      refine (CI.out _ _ _ _ c1 c2 Q1.out.way hk1 hk2).mono ?_
      rintro e w2 ⟨rfl, hb⟩
      -- a call whose world lies above: the box and the waterway stay
      have HB2 := Lib.hid (HB1.out.trans (hb.mono HB1.out.size))
      have Q2 := Lib.hid (Q1.out.below hb)
      clear hb HB1 Q1 k0 k1
      have k0 := Q2.out.cA
      have k1 := Q2.out.cB
      go_wp2_with fail
      refine (CS.out _ _ _ _ c1 c2 Q2.out.way hk1 hk2).mono ?_
      rintro e w3 ⟨rfl, hb⟩
      -- a call whose world lies above: the box and the waterway stay
      have HB3 := Lib.hid (HB2.out.trans (hb.mono HB2.out.size))
      have Q3 := Lib.hid (Q2.out.below hb)
      clear hb HB2 Q2 k0 k1
      have k0 := Q3.out.cA
      have k1 := Q3.out.cB
      have hii : (i != i) = false := by simp
      have htt : (t != t) = false := by simp
      have HB0 := Lib.hid HB3.out
      clear CS CI Q3 HB3 k0 k1 hn7 hk1 hk2 hnm hRl hx
      go_wp2_with fail
      refine (drawMin_any c (HC.out.on HB0.out)).mono ?_
      clear hii htt
      rintro e w1 ⟨g1, nR, c1, A2, nZ, c2, R, Z, x, y, v, hd, hx, hy, hv, rfl⟩
      have hn7 := hd.n7
      have hk1 := hd.c1
      have hk2 := hd.c2
      have hnm : nR ≤ maxLen := by unfold maxLen; omega
      have HB1 := Lib.hid ((HB0.out.trans (hd.bel.mono HB0.out.size)).alloc (HB0.out.trans (hd.bel.mono HB0.out.size)).size (wayO (.slice (some ⟨g1, 0, none⟩) nR c1) (.slice A2 nZ c2)))
      have Q1 := Lib.hid hd.wb
      have hRl := hd.way.len
      clear hd HB0
      obtain ⟨fx, fy, fz, CS, CI, HX⟩ := min_ex nR nZ R Z x y v hRl hnm
      have CS := Lib.hid CS
      have CI := Lib.hid CI
      have HX := Lib.hid HX
      have k0 := Q1.out.cA
      have k1 := Q1.out.cB
      go_wp2_with fail
      refine (CI.out _ _ _ _ c1 c2 Q1.out.way).mono ?_
      rintro e w2 ⟨rfl, hb⟩
      -- a call whose world lies above: the box and the waterway stay
      have HB2 := Lib.hid (HB1.out.trans (hb.mono HB1.out.size))
      have Q2 := Lib.hid (Q1.out.below hb)
      clear hb HB1 Q1 k0 k1
      have k0 := Q2.out.cA
      have k1 := Q2.out.cB
      go_wp2_with fail
      refine (CS.out _ _ _ _ c1 c2 Q2.out.way).mono ?_
      rintro e w3 ⟨rfl, hb⟩
      -- a call whose world lies above: the box and the waterway stay
      have HB3 := Lib.hid (HB2.out.trans (hb.mono HB2.out.size))
      have Q3 := Lib.hid (Q2.out.below hb)
      clear hb HB2 Q2 k0 k1
      have k0 := Q3.out.cA
      have k1 := Q3.out.cB
      have hxx : (fx != fx) = false := by simp
      have hyy : (fy != fy) = false := by simp
      have hzz : (fz != fz) = false := by simp
      clear CS CI
      cases fz with
      | true =>
        obtain ⟨⟨hx0, hy0⟩, HM⟩ := HX.out rfl
        obtain ⟨m, hm⟩ : ∃ m : Int, m = (x + y) / 2 := ⟨_, rfl⟩
        obtain ⟨x1, y1, x2, y2, hlaw, C1, C2⟩ := HM m hm
        have hlaw := Lib.hid (wrap_eq _ _ _ _ _ _ hlaw)
        have C1 := Lib.hid C1
        have C2 := Lib.hid C2
        have htd : (x + y).tdiv 2 = m := by rw [hm, Int.tdiv_eq_ediv_of_nonneg (by omega)]
        have hm0 : 0 ≤ m ∧ m ≤ 2000000 := by omega
        clear HM hm HX
        go_wp2_with fail
        refine (C1.out _ _ _ _ c1 c2 Q3.out.way).mono ?_
        rintro e w4 ⟨rfl, hb⟩
        -- a call whose world lies above: the box and the waterway stay
        have HB4 := Lib.hid (HB3.out.trans (hb.mono HB3.out.size))
        have Q4 := Lib.hid (Q3.out.below hb)
        clear hb HB3 Q3 k0 k1
        have k0 := Q4.out.cA
        have k1 := Q4.out.cB
        go_wp2_with fail
        refine (C2.out _ _ _ _ c1 c2 Q4.out.way).mono ?_
        rintro e w5 ⟨rfl, hb⟩
        -- a call whose world lies above: the box and the waterway stay
        have HB5 := Lib.hid (HB4.out.trans (hb.mono HB4.out.size))
        have Q5 := Lib.hid (Q4.out.below hb)
        clear hb HB4 Q4 k0 k1
        have k0 := Q5.out.cA
        have k1 := Q5.out.cB
        have hww := hlaw.out
        clear C1 C2 hlaw htd hm0
        have HB0 := Lib.hid HB5.out
        clear Q5 HB5 k0 k1 hn7 hk1 hk2 hnm hRl
        go_wp2_with fail
        refine (drawShl_any c (HC.out.on HB0.out)).mono ?_
        clear hxx hyy hzz hx hy hv
        rintro e w1 ⟨g1, nR, c1, A2, nZ, c2, R, Z, x, y, hd, hx, hy, rfl⟩
        have hn7 := hd.n7
        have hk1 := hd.c1
        have hk2 := hd.c2
        have hnm : nR ≤ maxLen := by unfold maxLen; omega
        have HB1 := Lib.hid ((HB0.out.trans (hd.bel.mono HB0.out.size)).alloc (HB0.out.trans (hd.bel.mono HB0.out.size)).size (wayO (.slice (some ⟨g1, 0, none⟩) nR c1) (.slice A2 nZ c2)))
        have Q1 := Lib.hid hd.wb
        have hRl := hd.way.len
        clear hd HB0
        obtain ⟨fx, fy, CS, CI⟩ := two_ShallowestDepth nR nZ R Z x y hnm (wf_i64 hx) (wf_i64 hy)
        have CS := Lib.hid CS
        have CI := Lib.hid CI
        have k0 := Q1.out.cA
        have k1 := Q1.out.cB
        go_wp2_with fail
        refine (CI.out _ _ _ _ c1 c2 Q1.out.way hk1 hk2).mono ?_
        rintro e w2 ⟨rfl, hb⟩
        -- a call whose world lies above: the box and the waterway stay
        have HB2 := Lib.hid (HB1.out.trans (hb.mono HB1.out.size))
        have Q2 := Lib.hid (Q1.out.below hb)
        clear hb HB1 Q1 k0 k1
        have k0 := Q2.out.cA
        have k1 := Q2.out.cB
        go_wp2_with fail
        refine (CS.out _ _ _ _ c1 c2 Q2.out.way hk1 hk2).mono ?_
        rintro e w3 ⟨rfl, hb⟩
        -- a call whose world lies above: the box and the waterway stay
        have HB3 := Lib.hid (HB2.out.trans (hb.mono HB2.out.size))
        have Q3 := Lib.hid (Q2.out.below hb)
        clear hb HB2 Q2 k0 k1
        have k0 := Q3.out.cA
        have k1 := Q3.out.cB
        have hxx : (fx != fx) = false := by simp
        have hyy : (fy != fy) = false := by simp
        have HB0 := Lib.hid HB3.out
        clear CS CI Q3 HB3 k0 k1 hn7 hk1 hk2 hnm hRl hx hy
        go_wp2_with fail
        refine (drawLev_any c (HC.out.on HB0.out)).mono ?_
        clear hxx hyy
        rintro e w1 ⟨g1, nR, c1, A2, nZ, c2, R, Z, x, hd, hx, rfl⟩
        have hn7 := hd.n7
        have hk1 := hd.c1
        have hk2 := hd.c2
        have hnm : nR ≤ maxLen := by unfold maxLen; omega
        have HB1 := Lib.hid ((HB0.out.trans (hd.bel.mono HB0.out.size)).alloc (HB0.out.trans (hd.bel.mono HB0.out.size)).size (wayO (.slice (some ⟨g1, 0, none⟩) nR c1) (.slice A2 nZ c2)))
        have Q1 := Lib.hid hd.wb
        have hRl := hd.way.len
        clear hd HB0
        obtain ⟨fx, fy, CS, CI, HX⟩ := lev_ex nR nZ R Z x hnm
        have CS := Lib.hid CS
        have CI := Lib.hid CI
        have HX := Lib.hid HX
        have k0 := Q1.out.cA
        have k1 := Q1.out.cB
        go_wp2_with fail
        refine (CI.out _ _ _ _ c1 c2 Q1.out.way hk2).mono ?_
        rintro e w2 ⟨rfl, hb⟩
        -- a call whose world lies above: the box and the waterway stay
        have HB2 := Lib.hid (HB1.out.trans (hb.mono HB1.out.size))
        have Q2 := Lib.hid (Q1.out.below hb)
        clear hb HB1 Q1 k0 k1
        have k0 := Q2.out.cA
        have k1 := Q2.out.cB
        go_wp2_with fail
        refine (CS.out _ _ _ _ c1 c2 Q2.out.way hk2).mono ?_
        rintro e w3 ⟨rfl, hb⟩
        -- a call whose world lies above: the box and the waterway stay
        have HB3 := Lib.hid (HB2.out.trans (hb.mono HB2.out.size))
        have Q3 := Lib.hid (Q2.out.below hb)
        clear hb HB2 Q2 k0 k1
        have k0 := Q3.out.cA
        have k1 := Q3.out.cB
        have hxx : (fx == fx) = true := by simp
        have hyy : (fy == fy) = true := by simp
        clear CS CI Q3 k0 k1
        cases fy with
        | false =>
          go_wp2_with fail
          refine bodyPost_ret (results_tmp rfl _ _ _) rfl ?_
          exact ⟨retb_P (by simp), HB3.out⟩
        | true =>
          rcases HX.out rfl with h0 | h0
          · go_wp2_with fail
            refine bodyPost_ret (results_tmp rfl _ _ _) rfl ?_
            exact ⟨retb_P (by simp [h0]), HB3.out⟩
          · subst h0
            go_wp2_with fail
            all_goals (refine bodyPost_ret (results_tmp rfl _ _ _) rfl ?_; exact ⟨retb_P (by simp), HB3.out⟩)
      | false =>
        have HB0 := Lib.hid HB3.out
        clear HX Q3 HB3 k0 k1 hn7 hk1 hk2 hnm hRl
        go_wp2_with fail
        refine (drawShl_any c (HC.out.on HB0.out)).mono ?_
        clear hxx hyy hzz hx hy hv
        rintro e w1 ⟨g1, nR, c1, A2, nZ, c2, R, Z, x, y, hd, hx, hy, rfl⟩
        have hn7 := hd.n7
        have hk1 := hd.c1
        have hk2 := hd.c2
        have hnm : nR ≤ maxLen := by unfold maxLen; omega
        have HB1 := Lib.hid ((HB0.out.trans (hd.bel.mono HB0.out.size)).alloc (HB0.out.trans (hd.bel.mono HB0.out.size)).size (wayO (.slice (some ⟨g1, 0, none⟩) nR c1) (.slice A2 nZ c2)))
        have Q1 := Lib.hid hd.wb
        have hRl := hd.way.len
        clear hd HB0
        obtain ⟨fx, fy, CS, CI⟩ := two_ShallowestDepth nR nZ R Z x y hnm (wf_i64 hx) (wf_i64 hy)
        have CS := Lib.hid CS
        have CI := Lib.hid CI
        have k0 := Q1.out.cA
        have k1 := Q1.out.cB
        go_wp2_with fail
        refine (CI.out _ _ _ _ c1 c2 Q1.out.way hk1 hk2).mono ?_
        rintro e w2 ⟨rfl, hb⟩
        -- a call whose world lies above: the box and the waterway stay
        have HB2 := Lib.hid (HB1.out.trans (hb.mono HB1.out.size))
        have Q2 := Lib.hid (Q1.out.below hb)
        clear hb HB1 Q1 k0 k1
        have k0 := Q2.out.cA
        have k1 := Q2.out.cB
        go_wp2_with fail
        refine (CS.out _ _ _ _ c1 c2 Q2.out.way hk1 hk2).mono ?_
        rintro e w3 ⟨rfl, hb⟩
        -- a call whose world lies above: the box and the waterway stay
        have HB3 := Lib.hid (HB2.out.trans (hb.mono HB2.out.size))
        have Q3 := Lib.hid (Q2.out.below hb)
        clear hb HB2 Q2 k0 k1
        have k0 := Q3.out.cA
        have k1 := Q3.out.cB
        have hxx : (fx != fx) = false := by simp
        have hyy : (fy != fy) = false := by simp
        have HB0 := Lib.hid HB3.out
        clear CS CI Q3 HB3 k0 k1 hn7 hk1 hk2 hnm hRl hx hy
        go_wp2_with fail
        refine (drawLev_any c (HC.out.on HB0.out)).mono ?_
        clear hxx hyy
        rintro e w1 ⟨g1, nR, c1, A2, nZ, c2, R, Z, x, hd, hx, rfl⟩
        have hn7 := hd.n7
        have hk1 := hd.c1
        have hk2 := hd.c2
        have hnm : nR ≤ maxLen := by unfold maxLen; omega
        have HB1 := Lib.hid ((HB0.out.trans (hd.bel.mono HB0.out.size)).alloc (HB0.out.trans (hd.bel.mono HB0.out.size)).size (wayO (.slice (some ⟨g1, 0, none⟩) nR c1) (.slice A2 nZ c2)))
        have Q1 := Lib.hid hd.wb
        have hRl := hd.way.len
        clear hd HB0
        obtain ⟨fx, fy, CS, CI, HX⟩ := lev_ex nR nZ R Z x hnm
        have CS := Lib.hid CS
        have CI := Lib.hid CI
        have HX := Lib.hid HX
        have k0 := Q1.out.cA
        have k1 := Q1.out.cB
        go_wp2_with fail
        refine (CI.out _ _ _ _ c1 c2 Q1.out.way hk2).mono ?_
        rintro e w2 ⟨rfl, hb⟩
        -- a call whose world lies above: the box and the waterway stay
        have HB2 := Lib.hid (HB1.out.trans (hb.mono HB1.out.size))
        have Q2 := Lib.hid (Q1.out.below hb)
        clear hb HB1 Q1 k0 k1
        have k0 := Q2.out.cA
        have k1 := Q2.out.cB
        go_wp2_with fail
        refine (CS.out _ _ _ _ c1 c2 Q2.out.way hk2).mono ?_
        rintro e w3 ⟨rfl, hb⟩
        -- a call whose world lies above: the box and the waterway stay
        have HB3 := Lib.hid (HB2.out.trans (hb.mono HB2.out.size))
        have Q3 := Lib.hid (Q2.out.below hb)
        clear hb HB2 Q2 k0 k1
        have k0 := Q3.out.cA
        have k1 := Q3.out.cB
        have hxx : (fx == fx) = true := by simp
        have hyy : (fy == fy) = true := by simp
        clear CS CI Q3 k0 k1
        cases fy with
        | false =>
          go_wp2_with fail
          refine bodyPost_ret (results_tmp rfl _ _ _) rfl ?_
          exact ⟨retb_P (by simp), HB3.out⟩
        | true =>
          rcases HX.out rfl with h0 | h0
          · go_wp2_with fail
            refine bodyPost_ret (results_tmp rfl _ _ _) rfl ?_
            exact ⟨retb_P (by simp [h0]), HB3.out⟩
          · subst h0
            go_wp2_with fail
            all_goals (refine bodyPost_ret (results_tmp rfl _ _ _) rfl ?_; exact ⟨retb_P (by simp), HB3.out⟩)
theorem own : ownKnob Try.prog.godebug = none := by kernel_rfl
theorem laidOut : laidOutB Try.prog = true := by kernel_rfl

set_option maxRecDepth 100000 in
theorem lifted (os : Os) (started : os.Started) (H : Type) (enc : TypeId × Value → H) :
    ReturnsInHanded {} Try.checked os 3 .any (Rows.fnPlacesSpec.pre6 enc Try.prog Try.f3 Rows.fnPlacesRow.domain false) (Rows.fnPlacesSpec.post enc Try.prog Try.f3 false true false false) := by
  refine returnsInHanded_of_change (C := Try.checked) own started (by kernel_rfl) Try.func3
    (ChangeSpec.witness6 (enc := enc) (C := Try.checked) false ⟨#[], #[.slice none 0 0], []⟩ 8 (by kernel_rfl) (by kernel_rfl) (by kernel_rfl) (by kernel_rfl)) ?_
  intro W base args ds gs before hval0 hW hcnd _
  have hval : ∀ (j : Nat) t v, Try.f3.params[j]? = some t → args[j]? = some v → Value.okWide Try.prog W .any base t v := hval0
  have hW' := hW
  obtain ⟨p, q, hA0, hV, rfl, hfz, hnd⟩ := hW
  have hA : DataW.TrodAll enc Try.prog W 0 (fun _ => true) true Try.f3.params.toList args.toList ds p := hA0
  rw [Try.params3] at hA hval
  obtain ⟨v0, vs0, d0, ds0, p0, q0, hargs, rfl, rfl, h0, r0⟩ := trodAll_cons hA
  obtain ⟨rfl, rfl, rfl⟩ := trodAll_nil r0
  obtain rfl : args = #[v0] := by cases args; simp_all
  obtain ⟨rfl, rfl⟩ := trodVars_none hV
  obtain ⟨a0, len0, cap0, rfl⟩ := okWide_slice Try.underlying22 (hval 0 22 v0 rfl rfl)
  have k0 := h0
  have lt0 : ∀ x ∈ p0, x.block < W.heap.size := by obtain ⟨m, hm⟩ := k0; exact DataW.trod_lt m _ _ _ hm
  obtain ⟨z0, w0⟩ : ∃ zs, IsInts .u8 W a0 len0 zs := by
    obtain ⟨fuel, hf⟩ := h0
    rcases open_ints Try.underlying22 Try.underlying5 (by kernel_rfl) hf with ⟨hcs, _⟩ | ⟨x, l, c, zs, hcs, _, hl, hm, hz, _, hcell, hwz⟩
    · simp [Value.cells] at hcs
      obtain ⟨rfl, rfl, rfl⟩ := hcs
      exact ⟨[], isInts_nil _ W⟩
    · simp [Value.cells] at hcs
      obtain ⟨rfl, rfl, rfl⟩ := hcs
      exact ⟨_, isInts_some hl hm (by simpa using hz) hcell hwz⟩
  clear hA0 hval0
  refine (walk a0 len0 cap0 z0 W w0).mono fun e W' ⟨he, bel⟩ => ?_
  subst he
  exact ⟨_, rfl, _, _, _, [], _, [], hW', trodAll_mk1 (shut_bool Try.underlying4 _), (trodAll_cons_mk (Below.trod laidOut (by kernel_rfl) (of_decide_eq_true (by kernel_rfl)) k0 bel lt0) trodAll_mk0), rfl, bel.frame _, fun h => by cases h⟩

theorem over : Rows.fnPlacesRow.holds Try.pinned (OpenSpec.ofChange Rows.fnPlacesSpec) :=
  OpenClaim.holds_of_wide 3 Try.f3 rfl rfl rfl rfl rfl rfl rfl ⟨rfl, rfl, rfl, rfl, rfl⟩ rfl rfl rfl rfl rfl (by kernel_rfl) Try.func3 (by kernel_rfl)
    (of_decide_eq_true (by kernel_rfl)) (by unfold Func.isWrapper; first | (rw [if_pos (by decide +kernel)]; kernel_rfl) | (rw [if_neg (by decide +kernel)]; exact ⟨rfl, rfl⟩))
    (fun os started H enc _ => lifted os started H enc)

/-- The statement. -/
theorem proved : Rows.FnPlacesSaid := over
end Go.Proofs.Ytgnopkemcgbedab.fnPlaces
