/- Chapter 10: how many lockages: the model and the program. -/
import Derived.Test.YtliebicnejbheaaWaE
namespace Go.Proofs.Ytliebicnejbheaa
open Go.RowKit Go.PlainAid Go.Sort
set_option linter.unusedVariables false
set_option linter.unusedSimpArgs false
theorem ite_mn7 (x y : Int) : (if x < y then x else y) = min x y := by split <;> omega
theorem ite_mn (x y : Int) : (if y < x then y else x) = min x y := by split <;> omega
attribute [local go_sem] ite_mn7 ite_mn

theorem units_div {x y v : Int} (hx : 0 ≤ x) (hy : 0 ≤ y) (hv : 1 ≤ v) : min x y / v = min (x / v) (y / v) := by
  rcases Int.le_total x y with h | h
  · rw [show min x y = x by omega]
    have := Int.ediv_le_ediv (c := v) (by omega) h
    omega
  · rw [show min x y = y by omega]
    have := Int.ediv_le_ediv (c := v) (by omega) h
    omega
theorem div_bd {x v : Int} (hx : 0 ≤ x ∧ x ≤ 100000) (hv : 1 ≤ v) : 0 ≤ x / v ∧ x / v ≤ 100000 := by
  constructor
  · exact Int.ediv_nonneg hx.1 (by omega)
  · exact Int.le_trans (Int.ediv_le_self _ hx.1) hx.2
/-- What is answered, in the model's way. -/
theorem mos_S {vs : List TBasin} {f : TFlow} (h : goodBs vs) (hf : goodF vs.length f) :
    units vs f / f.x2 = (if f.x1 = -1 then (if f.x0 = -1 then 100000 else min 100000 (uniF vs f / f.x2)) else min (if f.x0 = -1 then 100000 else min 100000 (uniF vs f / f.x2)) (uniT vs f / f.x2)) := by
  have b0 := uniF_bd h hf
  have b1 := uniT_bd h hf
  have hv := hf.2.2.2.1
  have hne := hf.2.2.1
  have d0 := div_bd b0 hv
  have d1 := div_bd b1 hv
  unfold units
  rw [units_div b0.1 b1.1 hv]
  by_cases e1 : f.x1 = -1
  · rw [if_pos e1, if_neg (by omega)]
    have : uniT vs f = 100000 := by unfold uniT; rw [if_pos e1]
    have h2 : uniF vs f / f.x2 ≤ 100000 / f.x2 := Int.ediv_le_ediv (by omega) b0.2
    rw [this]; omega
  · rw [if_neg e1]
    by_cases e0 : f.x0 = -1
    · rw [if_pos e0]
      have : uniF vs f = 100000 := by unfold uniF; rw [if_pos e0]
      have h2 : uniT vs f / f.x2 ≤ 100000 / f.x2 := Int.ediv_le_ediv (by omega) b1.2
      rw [this]; omega
    · rw [if_neg e0]; omega
theorem l1Least_any (x y : Int) (w : World) : Calls Try.prog 72 #[.int .i64 x, .int .i64 y] w fun e w' => e = .returned (.int .i64 (min x y)) ∧ w = w' := by
  by_cases h : x < y
  · rw [show min x y = x by omega]
    go_enter Try.func72, Try.ntmps72
    go_wp2
    go_ret
    exact ⟨rfl, rfl⟩
  · rw [show min x y = y by omega]
    go_enter Try.func72, Try.ntmps72
    go_wp2
    go_ret
    exact ⟨rfl, rfl⟩

set_option maxRecDepth 100000 in
set_option maxHeartbeats 2000000 in
theorem mostI_any {w : World} {B : Nat} {A : Option Addr} {n : Nat} {vs : List TBasin} (c : Nat) (h : IsBasins w B A n vs) (hm : n ≤ 1048576) (f0 f1 f2 : Int) (z : Int) (x : Bool) (hA : MosA vs ⟨f0, f1, f2⟩ z x) :
    Calls Try.prog 32 #[.slice A n c, .int .i64 f0, .int .i64 f1, .int .i64 f2] w fun e w' => e = .returned (.tuple #[.int .i64 z, .bool x]) ∧ Below w.heap.size w w' := by
  have CG := Lib.hid (fun R hR => isFlowI_any c h (Nat.le_trans hm (by unfold maxLen; omega)) f0 f1 f2 R hR)
  have HI := Lib.hid h
  have HNO := Lib.hid hA.2
  have HYES := Lib.hid hA.1
  have HG0 := Lib.hid (gBs_iff vs)
  have HG1 := Lib.hid (show gF n ⟨f0, f1, f2⟩ = true ↔ goodF vs.length ⟨f0, f1, f2⟩ by rw [h.len]; exact gF_iff _ _)
  clear h hA
  generalize gBs vs = b0 at CG HG0
  generalize gF n ⟨f0, f1, f2⟩ = b1 at CG HG1
  obtain ⟨b, hbb⟩ : ∃ b, b = (b0 && b1) := ⟨_, rfl⟩
  have HBB := Lib.hid (show b = true ↔ goodBs vs ∧ goodF vs.length ⟨f0, f1, f2⟩ by rw [hbb, Bool.and_eq_true, HG0.out, HG1.out])
  replace CG := Lib.hid (CG.out b hbb)
  clear hbb HG0 HG1
  go_enter Try.func32, Try.ntmps32
  go_wp2_with fail
  refine CG.out.mono ?_
  rintro e w1 ⟨rfl, hb⟩
  have HB1 := Lib.hid hb
  clear hb CG
  cases b with
  | false =>
    obtain ⟨rfl, rfl⟩ := HNO.out (fun g => by have := HBB.out.2 g; cases this)
    clear HNO HYES HBB
    go_wp2_with fail
    refine bodyPost_ret (results_tmp2 rfl _ _ _) rfl ?_
    exact ⟨rfl, HB1.out⟩
  | true =>
  obtain ⟨hgood, hf⟩ := HBB.out.1 rfl
  obtain ⟨hz, rfl⟩ := HYES.out ⟨hgood, hf⟩
  have HGK := Lib.hid (fun k (hk : k < n) => hgood.2 k (by rw [HI.out.len]; exact hk))
  rw [HI.out.len] at hf
  obtain ⟨⟨h1, h2⟩, ⟨h3, h4⟩, h5, h6, h7⟩ := hf
  dsimp only at h1 h2 h3 h4 h5 h6 h7
  have HZ : Hid (z = min (if f0 = -1 then 100000 else upB (vs.getD f0.toNat noBasin)) (if f1 = -1 then 100000 else dnB (vs.getD f1.toNat noBasin)) / f2) := Lib.hid hz
  have hv0 : f2 ≠ 0 := by omega
  clear hz hgood HBB HNO HYES
  by_cases c0 : f0 = -1
  · subst c0
    have c1 : ¬ f1 = -1 := by omega
    rw [if_pos rfl, if_neg c1] at HZ
    obtain ⟨y, rfl⟩ : ∃ p : Nat, f1 = (p : Int) := ⟨f1.toNat, by omega⟩
    obtain ⟨ay, eay, -, HVy⟩ := (HI.out.below HB1.out HI.out.low).has.Basin (k := y) (by rw [HI.out.len]; omega)
    have hgy := HGK.out y (by omega)
    rw [Int.toNat_natCast] at HZ
    generalize vs.getD y noBasin = Vy at HVy hgy HZ
    obtain ⟨dy, ly, my⟩ := Vy
    obtain ⟨ey0, ey1, ey2⟩ := HVy
    dsimp only at ey0 ey1 ey2 HZ
    obtain ⟨⟨ky0, ky1⟩, ky2, ky3⟩ := hgy
    dsimp only at ky0 ky1 ky2 ky3
    have ny0 : (0 : Int) ≤ (y : Int) := by omega
    have ny1 : (y : Int) < (n : Int) := by omega
    obtain rfl := eay
    have b0 : ((-1 : Int) != -1) = false := by simp
    have b1 : ((y : Int) != -1) = true := by simp
    obtain rfl : z = min (my - dy) 100000 / f2 := by rw [HZ.out]; congr 1; unfold dnB; dsimp only; omega
    have C := Lib.hid (fun W => belowMost_any dy ly my W (by omega) (by omega) (by omega))
    clear HZ c1 h5
    go_wp2_with fail
    refine (C.out _).mono ?_
    rintro e w2 ⟨rfl, hb⟩
    have HB2 := Lib.hid (HB1.out.trans (hb.mono HB1.out.size))
    clear hb C
    go_wp2_with fail
    refine bodyPost_ret (results_tmp2 rfl _ _ _) rfl ?_
    exact ⟨rfl, HB2.out⟩
  · have b0 : (f0 != -1) = true := by simpa using c0
    rw [if_neg c0] at HZ
    by_cases c1 : f1 = -1
    · subst c1
      rw [if_pos rfl] at HZ
      obtain ⟨p, rfl⟩ : ∃ p : Nat, f0 = (p : Int) := ⟨f0.toNat, by omega⟩
      obtain ⟨ap, eap, -, HVp⟩ := (HI.out.below HB1.out HI.out.low).has.Basin (k := p) (by rw [HI.out.len]; omega)
      have hgp := HGK.out p (by omega)
      rw [Int.toNat_natCast] at HZ
      generalize vs.getD p noBasin = Vp at HVp hgp HZ
      obtain ⟨dp, lp, mp⟩ := Vp
      obtain ⟨ep0, ep1, ep2⟩ := HVp
      dsimp only at ep0 ep1 ep2 HZ
      obtain ⟨⟨kp0, kp1⟩, kp2, kp3⟩ := hgp
      dsimp only at kp0 kp1 kp2 kp3
      have np0 : (0 : Int) ≤ (p : Int) := by omega
      have np1 : (p : Int) < (n : Int) := by omega
      obtain rfl := eap
      have b1 : ((-1 : Int) != -1) = false := by simp
      obtain rfl : z = min (dp - lp) 100000 / f2 := by rw [HZ.out]; congr 1
      have C := Lib.hid (fun W => aboveLeast_any dp lp mp W (by omega) (by omega) (by omega))
      clear HZ c0 h5
      go_wp2_with fail
      refine (C.out _).mono ?_
      rintro e w2 ⟨rfl, hb⟩
      have HB2 := Lib.hid (HB1.out.trans (hb.mono HB1.out.size))
      clear hb C
      go_wp2_with fail
      refine bodyPost_ret (results_tmp2 rfl _ _ _) rfl ?_
      exact ⟨rfl, HB2.out⟩
    · rw [if_neg c1] at HZ
      obtain ⟨p, rfl⟩ : ∃ p : Nat, f0 = (p : Int) := ⟨f0.toNat, by omega⟩
      obtain ⟨ap, eap, -, HVp⟩ := (HI.out.below HB1.out HI.out.low).has.Basin (k := p) (by rw [HI.out.len]; omega)
      have hgp := HGK.out p (by omega)
      rw [Int.toNat_natCast] at HZ
      generalize vs.getD p noBasin = Vp at HVp hgp HZ
      obtain ⟨dp, lp, mp⟩ := Vp
      obtain ⟨ep0, ep1, ep2⟩ := HVp
      dsimp only at ep0 ep1 ep2 HZ
      obtain ⟨⟨kp0, kp1⟩, kp2, kp3⟩ := hgp
      dsimp only at kp0 kp1 kp2 kp3
      have np0 : (0 : Int) ≤ (p : Int) := by omega
      have np1 : (p : Int) < (n : Int) := by omega
      obtain rfl := eap
      obtain ⟨q, rfl⟩ : ∃ p : Nat, f1 = (p : Int) := ⟨f1.toNat, by omega⟩
      have hgq := HGK.out q (by omega)
      rw [Int.toNat_natCast] at HZ
      have b1 : ((q : Int) != -1) = true := by simp
      have HVQ := Lib.hid (fun W (hb : Below w.heap.size w W) => (HI.out.below hb HI.out.low).has.Basin (k := q) (by rw [HI.out.len]; omega))
      generalize vs.getD q noBasin = V at HVQ hgq HZ
      obtain ⟨dq, lq, mq⟩ := V
      obtain ⟨⟨kq0, kq1⟩, kq2, kq3⟩ := hgq
      dsimp only at kq0 kq1 kq2 kq3
      have nq0 : (0 : Int) ≤ (q : Int) := by omega
      have nq1 : (q : Int) < (n : Int) := by omega
      obtain rfl : z = min (mq - dq) (min (dp - lp) 100000) / f2 := by rw [HZ.out]; congr 1; unfold upB dnB; dsimp only; omega
      have C := Lib.hid (fun W => aboveLeast_any dp lp mp W (by omega) (by omega) (by omega))
      clear HZ c0 c1 h5
      go_wp2_with fail
      refine (C.out _).mono ?_
      rintro e w2 ⟨rfl, hb⟩
      have HB2 := Lib.hid (HB1.out.trans (hb.mono HB1.out.size))
      clear hb C
      obtain ⟨a9, ea9, -, HV9⟩ := HVQ.out _ HB2.out
      injection ea9 with ea9
      subst ea9
      obtain ⟨eq0, eq1, eq2⟩ := HV9
      dsimp only at eq0 eq1 eq2
      have C2 := Lib.hid (fun W => belowMost_any dq lq mq W (by omega) (by omega) (by omega))
      go_wp2_with fail
      refine (C2.out _).mono ?_
      rintro e w3 ⟨rfl, hb⟩
      have HB3 := Lib.hid (HB2.out.trans (hb.mono HB2.out.size))
      clear hb C2 HB2
      go_wp2_with fail
      refine bodyPost_ret (results_tmp2 rfl _ _ _) rfl ?_
      exact ⟨rfl, HB3.out⟩

set_option maxRecDepth 100000 in
set_option maxHeartbeats 4000000 in
theorem mostS_any {w : World} {B : Nat} {A : Option Addr} {n : Nat} {vs : List TBasin} (c : Nat) (h : IsBasins w B A n vs) (hm : n ≤ 1048576) (f0 f1 f2 : Int) (z : Int) (x : Bool) (hA : MosA vs ⟨f0, f1, f2⟩ z x) :
    Calls Try.prog 33 #[.slice A n c, .int .i64 f0, .int .i64 f1, .int .i64 f2] w fun e w' => e = .returned (.tuple #[.int .i64 z, .bool x]) ∧ Below w.heap.size w w' := by
  have CG := Lib.hid (l10Good_any c h (Nat.le_trans hm (by unfold maxLen; omega)))
  have CF := Lib.hid (fun W => l10Flow_any n f0 f1 f2 W (Nat.le_trans hm (by unfold maxLen; omega)))
  have CL := Lib.hid (fun x y W => toBelow (l1Least_any x y W))
  have HI := Lib.hid h
  have HNO := Lib.hid hA.2
  have HYES := Lib.hid hA.1
  have HG0 := Lib.hid (gBs_iff vs)
  have HG1 := Lib.hid (show gF n ⟨f0, f1, f2⟩ = true ↔ goodF vs.length ⟨f0, f1, f2⟩ by rw [h.len]; exact gF_iff _ _)
  clear h hA
  generalize gBs vs = b0 at CG HG0
  generalize gF n ⟨f0, f1, f2⟩ = b1 at CF HG1
  go_enter Try.func33, Try.ntmps33
  go_wp2_with fail
  refine CG.out.mono ?_
  rintro e w1 ⟨rfl, hb⟩
  have HB0 := Lib.hid hb
  clear hb CG
  cases b0 with
  | false =>
    obtain ⟨rfl, rfl⟩ := HNO.out (fun g => by have := HG0.out.2 g.1; cases this)
    clear HNO HYES HG0 HG1
    go_wp2_with fail
    refine bodyPost_ret (results_tmp2 rfl _ _ _) rfl ?_
    exact ⟨rfl, HB0.out⟩
  | true =>
  have hgood := HG0.out.1 rfl
  clear HG0
  go_wp2_with fail
  refine (CF.out _).mono ?_
  rintro e w2 ⟨rfl, hb⟩
  have HB1 := Lib.hid (HB0.out.trans (hb.mono HB0.out.size))
  clear hb CF HB0
  cases b1 with
  | false =>
    clear hgood
    obtain ⟨rfl, rfl⟩ := HNO.out (fun g => by have := HG1.out.2 g.2; cases this)
    clear HNO HYES HG1
    go_wp2_with fail
    refine bodyPost_ret (results_tmp2 rfl _ _ _) rfl ?_
    exact ⟨rfl, HB1.out⟩
  | true =>
  have hf := HG1.out.1 rfl
  obtain ⟨hz, rfl⟩ := HYES.out ⟨hgood, hf⟩
  rw [mos_S hgood hf] at hz
  have HGK := Lib.hid (fun k (hk : k < n) => hgood.2 k (by rw [HI.out.len]; exact hk))
  rw [HI.out.len] at hf
  obtain ⟨⟨h1, h2⟩, ⟨h3, h4⟩, h5, h6, h7⟩ := hf
  dsimp only at h1 h2 h3 h4 h5 h6 h7 hz
  have HZ : Hid (z = (if f1 = -1 then (if f0 = -1 then 100000 else min 100000 ((if f0 = -1 then 100000 else upB (vs.getD f0.toNat noBasin)) / f2)) else min (if f0 = -1 then 100000 else min 100000 ((if f0 = -1 then 100000 else upB (vs.getD f0.toNat noBasin)) / f2)) ((if f1 = -1 then 100000 else dnB (vs.getD f1.toNat noBasin)) / f2))) := Lib.hid hz
  have hv0 : f2 ≠ 0 := by omega
  clear hz hgood HG1 HNO HYES
  by_cases c0 : f0 = -1
  · subst c0
    have c1 : ¬ f1 = -1 := by omega
    rw [if_neg c1, if_pos rfl, if_neg c1] at HZ
    obtain ⟨y, rfl⟩ : ∃ p : Nat, f1 = (p : Int) := ⟨f1.toNat, by omega⟩
    obtain ⟨ay, eay, -, HVy⟩ := (HI.out.below HB1.out HI.out.low).has.Basin (k := y) (by rw [HI.out.len]; omega)
    have hgy := HGK.out y (by omega)
    rw [Int.toNat_natCast] at HZ
    generalize vs.getD y noBasin = Vy at HVy hgy HZ
    obtain ⟨dy, ly, my⟩ := Vy
    obtain ⟨ey0, ey1, ey2⟩ := HVy
    dsimp only at ey0 ey1 ey2 HZ
    obtain ⟨⟨ky0, ky1⟩, ky2, ky3⟩ := hgy
    dsimp only at ky0 ky1 ky2 ky3
    have ny0 : (0 : Int) ≤ (y : Int) := by omega
    have ny1 : (y : Int) < (n : Int) := by omega
    obtain rfl := eay
    have b0 : ((-1 : Int) != -1) = false := by simp
    have b1 : ((y : Int) != -1) = true := by simp
    obtain rfl : z = min 100000 ((my - dy) / f2) := by rw [HZ.out]; rfl
    have c1 := fun (dr : Nat) (os : Array Obj) => Calls.regrown_of (w := w2) (d := dr) (os := os) (CL.out 100000 ((my - dy) / f2) _)
    have Ey0 := fun (d : Nat) (os : Array Obj) => cell_regrown ey0 d os
    have Ey1 := fun (d : Nat) (os : Array Obj) => cell_regrown ey1 d os
    have Ey2 := fun (d : Nat) (os : Array Obj) => cell_regrown ey2 d os
    clear ey0 ey1 ey2
    clear HZ h5 CL
    go_wp2_with fail
    refine wp_region_quiet_below (by kernel_rfl) (by kernel_rfl) ?_
    repeat (go_big_quiet_step (first | exact c1 _ _))
    refine wpQuiet_nil ?_
    intro _ hw'
    obtain ⟨⟨dq, osq⟩, hw''⟩ := hw'
    subst hw''
    have HB2 := Lib.hid (HB1.out.trans ((below_regrown w2 dq osq).mono HB1.out.size))
    go_wp2_with fail
    refine bodyPost_ret (results_tmp2 rfl _ _ _) rfl ?_
    exact ⟨rfl, HB2.out⟩
  · have b0 : (f0 != -1) = true := by simpa using c0
    rw [if_neg c0, if_neg c0] at HZ
    by_cases c1 : f1 = -1
    · subst c1
      rw [if_pos rfl] at HZ
      obtain ⟨p, rfl⟩ : ∃ p : Nat, f0 = (p : Int) := ⟨f0.toNat, by omega⟩
      obtain ⟨ap, eap, -, HVp⟩ := (HI.out.below HB1.out HI.out.low).has.Basin (k := p) (by rw [HI.out.len]; omega)
      have hgp := HGK.out p (by omega)
      rw [Int.toNat_natCast] at HZ
      generalize vs.getD p noBasin = Vp at HVp hgp HZ
      obtain ⟨dp, lp, mp⟩ := Vp
      obtain ⟨ep0, ep1, ep2⟩ := HVp
      dsimp only at ep0 ep1 ep2 HZ
      obtain ⟨⟨kp0, kp1⟩, kp2, kp3⟩ := hgp
      dsimp only at kp0 kp1 kp2 kp3
      have np0 : (0 : Int) ≤ (p : Int) := by omega
      have np1 : (p : Int) < (n : Int) := by omega
      obtain rfl := eap
      have b1 : ((-1 : Int) != -1) = false := by simp
      obtain rfl : z = min 100000 ((dp - lp) / f2) := by rw [HZ.out]; rfl
      have c1 := fun (dr : Nat) (os : Array Obj) => Calls.regrown_of (w := w2) (d := dr) (os := os) (CL.out 100000 ((dp - lp) / f2) _)
      have Ep0 := fun (d : Nat) (os : Array Obj) => cell_regrown ep0 d os
      have Ep1 := fun (d : Nat) (os : Array Obj) => cell_regrown ep1 d os
      have Ep2 := fun (d : Nat) (os : Array Obj) => cell_regrown ep2 d os
      clear ep0 ep1 ep2
      clear HZ c0 h5 CL
      go_wp2_with fail
      refine wp_region_quiet_below (by kernel_rfl) (by kernel_rfl) ?_
      repeat (go_big_quiet_step (first | exact c1 _ _))
      refine wpQuiet_nil ?_
      intro _ hw'
      obtain ⟨⟨dq, osq⟩, hw''⟩ := hw'
      subst hw''
      have HB2 := Lib.hid (HB1.out.trans ((below_regrown w2 dq osq).mono HB1.out.size))
      go_wp2_with fail
      refine bodyPost_ret (results_tmp2 rfl _ _ _) rfl ?_
      exact ⟨rfl, HB2.out⟩
    · rw [if_neg c1, if_neg c1] at HZ
      obtain ⟨p, rfl⟩ : ∃ p : Nat, f0 = (p : Int) := ⟨f0.toNat, by omega⟩
      obtain ⟨ap, eap, -, HVp⟩ := (HI.out.below HB1.out HI.out.low).has.Basin (k := p) (by rw [HI.out.len]; omega)
      have hgp := HGK.out p (by omega)
      rw [Int.toNat_natCast] at HZ
      generalize vs.getD p noBasin = Vp at HVp hgp HZ
      obtain ⟨dp, lp, mp⟩ := Vp
      obtain ⟨ep0, ep1, ep2⟩ := HVp
      dsimp only at ep0 ep1 ep2 HZ
      obtain ⟨⟨kp0, kp1⟩, kp2, kp3⟩ := hgp
      dsimp only at kp0 kp1 kp2 kp3
      have np0 : (0 : Int) ≤ (p : Int) := by omega
      have np1 : (p : Int) < (n : Int) := by omega
      obtain rfl := eap
      obtain ⟨q, rfl⟩ : ∃ p : Nat, f1 = (p : Int) := ⟨f1.toNat, by omega⟩
      have hgq := HGK.out q (by omega)
      rw [Int.toNat_natCast] at HZ
      have b1 : ((q : Int) != -1) = true := by simp
      have HVQ := Lib.hid (fun W (hb : Below w.heap.size w W) => (HI.out.below hb HI.out.low).has.Basin (k := q) (by rw [HI.out.len]; omega))
      generalize vs.getD q noBasin = V at HVQ hgq HZ
      obtain ⟨dy, ly, my⟩ := V
      obtain ⟨⟨kq0, kq1⟩, kq2, kq3⟩ := hgq
      dsimp only at kq0 kq1 kq2 kq3
      have nq0 : (0 : Int) ≤ (q : Int) := by omega
      have nq1 : (q : Int) < (n : Int) := by omega
      obtain rfl : z = min (min 100000 ((dp - lp) / f2)) ((my - dy) / f2) := by rw [HZ.out]; rfl
      have c1 := fun (dr : Nat) (os : Array Obj) => Calls.regrown_of (w := w2) (d := dr) (os := os) (CL.out 100000 ((dp - lp) / f2) _)
      have Ep0 := fun (d : Nat) (os : Array Obj) => cell_regrown ep0 d os
      have Ep1 := fun (d : Nat) (os : Array Obj) => cell_regrown ep1 d os
      have Ep2 := fun (d : Nat) (os : Array Obj) => cell_regrown ep2 d os
      clear ep0 ep1 ep2
      have c2 := fun (W : World) (dr : Nat) (os : Array Obj) => Calls.regrown_of (w := W) (d := dr) (os := os) (CL.out (min 100000 ((dp - lp) / f2)) ((my - dy) / f2) _)
      have hdv := div_bd (x := dp - lp) (v := f2) (by omega) (by omega)
      clear HZ c0 h5 CL
      go_wp2_with fail
      refine wp_region_quiet_below (by kernel_rfl) (by kernel_rfl) ?_
      repeat (go_big_quiet_step (first | exact c1 _ _))
      refine wpQuiet_nil ?_
      intro _ hw'
      obtain ⟨⟨dq, osq⟩, hw''⟩ := hw'
      subst hw''
      have HB2 := Lib.hid (HB1.out.trans ((below_regrown w2 dq osq).mono HB1.out.size))
      clear c1 Ep0 Ep1 Ep2
      dsimp only
      generalize grow (redrawn w2 dq) osq = W3 at HB2 ⊢
      obtain ⟨a9, ea9, -, HV9⟩ := HVQ.out _ HB2.out
      injection ea9 with ea9
      subst ea9
      obtain ⟨eq0, eq1, eq2⟩ := HV9
      dsimp only at eq0 eq1 eq2
      have c3 := c2 W3
      have Eq0 := fun (d : Nat) (os : Array Obj) => cell_regrown eq0 d os
      have Eq1 := fun (d : Nat) (os : Array Obj) => cell_regrown eq1 d os
      have Eq2 := fun (d : Nat) (os : Array Obj) => cell_regrown eq2 d os
      clear eq0 eq1 eq2
      clear c2 HVQ
      go_wp2_with fail
      refine wp_region_quiet_below (by kernel_rfl) (by kernel_rfl) ?_
      repeat (go_big_quiet_step (first | exact c3 _ _))
      refine wpQuiet_nil ?_
      intro _ hw'
      obtain ⟨⟨dq, osq⟩, hw''⟩ := hw'
      subst hw''
      have HB3 := Lib.hid (HB2.out.trans ((below_regrown W3 dq osq).mono HB2.out.size))
      go_wp2_with fail
      refine bodyPost_ret (results_tmp2 rfl _ _ _) rfl ?_
      exact ⟨rfl, HB3.out⟩
end Go.Proofs.Ytliebicnejbheaa
