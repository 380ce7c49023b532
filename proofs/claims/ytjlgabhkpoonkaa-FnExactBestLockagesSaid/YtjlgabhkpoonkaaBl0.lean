/- BestLockages of nobody answers as its model does; it writes into no argument. -/
import Derived.Test.YtjlgabhkpoonkaaLkU
import Derived.Test.YtjlgabhkpoonkaaIntX
import Derived.Test.YtjlgabhkpoonkaaCur
import Derived.Test.YtjlgabhkpoonkaaSt0
import Derived.OpenShut
import Derived.ShutString
import Derived.ChangeOld
import Derived.WalkLawsBesides
import Derived.Lib.SmallJoins
import Derived.Deep.RegionHeld3
namespace Go.Proofs.Ytjlgabhkpoonkaa.fnExactBestLockages
open Go.ChangeShapes Go.WideShapes Go.ChangeAt Go.RowKit
open Go.ChangeMaps (open_string shut_string)
set_option linter.unusedVariables false
set_option linter.unusedSimpArgs false

abbrev rArrival (g n c : Nat) (xs : List Value) : RowOf := ⟨35, 4, .slice (some ⟨g, 0, none⟩) n c, n, xs⟩
abbrev ri (g n c : Nat) (xs : List Value) : RowOf := ⟨3, 1, .slice (some ⟨g, 0, none⟩) n c, n, xs⟩

set_option maxRecDepth 100000 in
set_option maxHeartbeats 4000000 in
theorem walk0 (Ah : Option Addr) (nh ch : Nat) (vh : List TArrival) (hg : Bool) (mi : Int) (w : World) (hnh : vh.length = nh) (hmh : nh ≤ maxLen) (hhh : Has w w.heap.size Ah (flatArrival vh)) (kmi : (Lit.int .i64 mi).wf = true) (h0 : nh = 0) (hmm : 1 ≤ mi ∧ mi ≤ 60) :
    Calls Try.prog 8 #[.slice Ah nh ch, .bool hg, .int .i64 mi] w fun e w' => e = .returned (.bool true) ∧ Below w.heap.size w w' := by
  have ivh : IsArrivals w w.heap.size Ah nh vh := ⟨hnh, Nat.le_refl _, hhh⟩
  have IVh := Lib.hid (fun W (hb : Below w.heap.size w W) => ivh.below hb (Nat.le_refl _))
  have HMh := Lib.hid hmh
  have HA := Lib.hid (bestA_nil (hnh.trans h0) mi hg hmm)
  have H0 := Lib.hid h0
  have HMM := Lib.hid hmm
  have HLB : Hid (([] : List Int).length ≤ 6) := Lib.hid (by simp)
  clear h0 hmm
  clear hnh hhh ivh
  go_enter Try.func8, Try.ntmps8
  have S0 := Lib.hid (St.start w)
  obtain ⟨lefth, l0h, l1h, lfh, szh⟩ := szArrivalS_is Ah nh ch 1048576 HMh.out (by omega) (by omega)
  have SZh := Lib.hid szh
  clear szh
  go_wp2_with fail
  refine (SZh.out _).mono ?_
  rintro e w1 ⟨rfl, rfl⟩
  clear SZh
  by_cases negh : lefth < 0
  · go_wp2_with fail
    go_ret
    exact ⟨rfl, S0.out.low⟩
  have HNh : Hid (nh ≤ 1048576) := Lib.hid (by have := lfh (by omega); omega)
  obtain ⟨Ln, hLn⟩ : ∃ k, ([] : List Int).length = k := ⟨_, rfl⟩
  have HLn := Lib.hid hLn
  have hLb : Ln ≤ 6 := by rw [← hLn]; exact HLB.out
  clear hLn
  go_wp2_with fail
  refine (toArrivalS_is ch (IVh.out _ S0.out.low) HNh.out).mono ?_
  rintro e w2 ⟨t1, rfl, hown, -, hb⟩
  have zt1 := hown.lt t1 rfl
  have qt1 : w.heap.size ≤ t1 := Nat.le_trans S0.out.low.size zt1.1
  have S1 := Lib.hid ((S0.out.quiet hb).own (rArrival t1 nh nh (flatArrival vh)) (own_low hown S0.out.low.size))
  clear hb hown zt1 S0
  go_wp2_with fail
  refine (bestS_any _ (own_Arrivals (S1.out.row (rArrival t1 nh nh (flatArrival vh)) (by simp))) HNh.out hg mi ([] : List Int) 0 true HA.out Ln HLn.out).mono ?_
  rintro e w3 ⟨gw, cgw, rfl, hown, hb⟩
  have zgw := hown.lt gw rfl
  have dgw_t1 : gw ≠ t1 := by have h1 := (S1.out.lt (r := rArrival t1 nh nh (flatArrival vh)) (by simp) (g := t1) rfl).2; have h2 := zgw.1; omega
  have qgw : w.heap.size ≤ gw := Nat.le_trans S1.out.low.size zgw.1
  have S2 := Lib.hid ((S1.out.quiet hb).own (ri gw Ln cgw (([] : List Int).map (.int .i64))) (own_low hown S1.out.low.size))
  clear hb hown zgw S1
  have S3 := Lib.hid (S2.out.sub (rows' := [ri gw Ln cgw (([] : List Int).map (.int .i64))]) (by simp))
  clear S2
  go_wp2_with fail
  refine (toArrivalS_is ch (IVh.out _ S3.out.low) HNh.out).mono ?_
  rintro e w4 ⟨xh, rfl, hown, -, hb⟩
  have zxh := hown.lt xh rfl
  have dxh_gw : xh ≠ gw := by have h1 := (S3.out.lt (r := ri gw Ln cgw (([] : List Int).map (.int .i64))) (by simp) (g := gw) rfl).2; have h2 := zxh.1; omega
  have qxh : w.heap.size ≤ xh := Nat.le_trans S3.out.low.size zxh.1
  have S4 := Lib.hid ((S3.out.quiet hb).own (rArrival xh nh nh (flatArrival vh)) (own_low hown S3.out.low.size))
  clear hb hown zxh S3
  go_wp2_with fail
  refine (bestI0_any _ (own_Arrivals (S4.out.row (rArrival xh nh nh (flatArrival vh)) (by simp))) HNh.out hg mi H0.out HMM.out Ln HLn.out).mono ?_
  rintro e w5 ⟨Agg, cgg, rfl, hb⟩
  have S5 := Lib.hid (S4.out.quiet hb)
  clear hb S4
  go_wp2_with fail
  refine (eqI_same _ _ Ln _ _ 0 _ ([] : List Int) _ HLn.out (by unfold maxLen; omega) (Has.nil _ _ _) (own_hasv (S5.out.row (ri gw Ln cgw (([] : List Int).map (.int .i64))) (by simp)))).mono ?_
  rintro e w6 ⟨rfl, hD⟩
  have S6 := Lib.hid (S5.out.drawn hD)
  clear hD S5
  go_wp2_with fail
  refine (toArrivalS_is ch (IVh.out _ S6.out.low) HNh.out).mono ?_
  rintro e w7 ⟨t2, rfl, hown, -, hb⟩
  have zt2 := hown.lt t2 rfl
  have dt2_xh : t2 ≠ xh := by have h1 := (S6.out.lt (r := rArrival xh nh nh (flatArrival vh)) (by simp) (g := xh) rfl).2; have h2 := zt2.1; omega
  have dt2_gw : t2 ≠ gw := by have h1 := (S6.out.lt (r := ri gw Ln cgw (([] : List Int).map (.int .i64))) (by simp) (g := gw) rfl).2; have h2 := zt2.1; omega
  have qt2 : w.heap.size ≤ t2 := Nat.le_trans S6.out.low.size zt2.1
  have S7 := Lib.hid ((S6.out.quiet hb).own (rArrival t2 nh nh (flatArrival vh)) (own_low hown S6.out.low.size))
  clear hb hown zt2 S6
  go_wp2_with fail
  refine (eqArrivalS_is _ _ (own_Arrivals (S7.out.row (rArrival xh nh nh (flatArrival vh)) (by simp))) (own_Arrivals (S7.out.row (rArrival t2 nh nh (flatArrival vh)) (by simp))) (Nat.le_trans HNh.out (by unfold maxLen; omega))).mono ?_
  rintro e w8 ⟨rfl, hb⟩
  have S8 := Lib.hid (S7.out.quiet hb)
  clear hb S7
  have S9 := Lib.hid (S8.out.sub (rows' := [rArrival xh nh nh (flatArrival vh), ri gw Ln cgw (([] : List Int).map (.int .i64))]) (by simp))
  clear S8
  have hNh := HNh.out
  go_wp2_with fail
  refine (markArrivalS_any xh nh nh w.heap.size (1) _ _ (by omega) (by omega) (S9.out.row (rArrival xh nh nh (flatArrival vh)) (by simp))).mono ?_
  rintro e w9 ⟨rfl, hoM, hgr⟩
  have T8 := S9.out.sub (rows' := [rArrival xh nh nh (flatArrival vh), ri gw Ln cgw (([] : List Int).map (.int .i64))]) (by simp)
  have S10 := Lib.hid (T8.turn (r' := rArrival xh nh nh (flatArrival (mkArrival (1) nh))) hgr (fun q e => by cases e; omega) (by first | (simp; omega) | simp) (by simp [Value.ownBlock]; omega) hoM)
  clear T8 hoM hgr S9
  have S11 := Lib.hid (S10.out.sub (rows' := [ri gw Ln cgw (([] : List Int).map (.int .i64))]) (by simp))
  clear S10
  have hkk : ¬ (1 + 4 * (nh : Int) < 0) := by omega
  go_wp2_with fail
  refine (eqI_same _ _ Ln _ _ 0 _ ([] : List Int) _ HLn.out (by unfold maxLen; omega) (Has.nil _ _ _) (own_hasv (S11.out.row (ri gw Ln cgw (([] : List Int).map (.int .i64))) (by simp)))).mono ?_
  rintro e w10 ⟨rfl, hD⟩
  have S12 := Lib.hid (S11.out.drawn hD)
  clear hD S11
  go_wp2_with fail
  refine (markI0_any Agg Ln cgg HLn.out 1 _).mono ?_
  rintro e w11 ⟨rfl, rfl⟩
  go_wp2_with fail
  refine (heldI0_any Agg Ln cgg HLn.out 1 _).mono ?_
  rintro e w12 ⟨rfl, rfl⟩
  have hq1 : ¬ (1 < 0) := by omega
  have hq2 : ((1) != (1)) = false := by simp
  go_wp2_with fail
  refine (toArrivalS_is ch (IVh.out _ S12.out.low) HNh.out).mono ?_
  rintro e w13 ⟨t3, rfl, hown, -, hb⟩
  have zt3 := hown.lt t3 rfl
  have dt3_gw : t3 ≠ gw := by have h1 := (S12.out.lt (r := ri gw Ln cgw (([] : List Int).map (.int .i64))) (by simp) (g := gw) rfl).2; have h2 := zt3.1; omega
  have qt3 : w.heap.size ≤ t3 := Nat.le_trans S12.out.low.size zt3.1
  have S13 := Lib.hid ((S12.out.quiet hb).own (rArrival t3 nh nh (flatArrival vh)) (own_low hown S12.out.low.size))
  clear hb hown zt3 S12
  go_wp2_with fail
  refine (bestI0_any _ (own_Arrivals (S13.out.row (rArrival t3 nh nh (flatArrival vh)) (by simp))) HNh.out hg mi H0.out HMM.out Ln HLn.out).mono ?_
  rintro e w14 ⟨Agh, cgh, rfl, hb⟩
  have S14 := Lib.hid (S13.out.quiet hb)
  clear hb S13
  have S15 := Lib.hid (S14.out.sub (rows' := [ri gw Ln cgw (([] : List Int).map (.int .i64))]) (by simp))
  clear S14
  go_wp2_with fail
  refine (eqI_same _ _ Ln _ _ 0 _ ([] : List Int) _ HLn.out (by unfold maxLen; omega) (Has.nil _ _ _) (own_hasv (S15.out.row (ri gw Ln cgw (([] : List Int).map (.int .i64))) (by simp)))).mono ?_
  rintro e w15 ⟨rfl, hD⟩
  have S16 := Lib.hid (S15.out.drawn hD)
  clear hD S15
  go_wp2_with fail
  refine (heldI0_any Agg Ln cgg HLn.out 1 _).mono ?_
  rintro e w16 ⟨rfl, rfl⟩
  go_wp2_with fail
  go_ret
  exact ⟨rfl, S16.out.low⟩
end Go.Proofs.Ytjlgabhkpoonkaa.fnExactBestLockages
