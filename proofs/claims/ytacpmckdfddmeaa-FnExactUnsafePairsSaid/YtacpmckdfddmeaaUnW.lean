/- The walk of FnExactUnsafePairs: UnsafePairs answers as its model does, at every list and all cells; it writes into no argument and its answer owns its memory. -/
import Derived.Test.YtacpmckdfddmeaaDgV
import Derived.Test.YtacpmckdfddmeaaIntX
import Derived.Test.YtacpmckdfddmeaaCur
import Derived.Test.YtacpmckdfddmeaaSt0
import Derived.OpenShut
import Derived.ShutString
import Derived.ChangeOld
import Derived.WalkLawsBesides
import Derived.Lib.SmallJoins
import Derived.Deep.RegionHeld3
namespace Go.Proofs.Ytacpmckdfddmeaa.fnExactUnsafePairs
open Go.ChangeShapes Go.WideShapes Go.ChangeAt Go.RowKit
open Go.ChangeMaps (open_string shut_string)
set_option linter.unusedVariables false
set_option linter.unusedSimpArgs false

abbrev rCargo (g n c : Nat) (xs : List Value) : RowOf := ⟨40, 3, .slice (some ⟨g, 0, none⟩) n c, n, xs⟩
abbrev ri (g n c : Nat) (xs : List Value) : RowOf := ⟨3, 1, .slice (some ⟨g, 0, none⟩) n c, n, xs⟩
abbrev rp (g n c : Nat) (xs : List Value) : RowOf := ⟨26, 1, .slice (some ⟨g, 0, none⟩) n c, n, xs⟩

set_option maxRecDepth 100000 in
set_option maxHeartbeats 4000000 in
theorem walk (Ah : Option Addr) (nh ch : Nat) (vh : List TCargo) (At : Option Addr) (nt ct : Nat) (zt : List Int) (w : World) (hnh : vh.length = nh) (hmh : nh ≤ maxLen) (hhh : Has w w.heap.size Ah (flatCargo vh)) (hIt : IsInts .i64 w At nt zt) :
    Calls Try.prog 10 #[.slice Ah nh ch, .slice At nt ct] w fun e w' => e = .returned (.bool true) ∧ Below w.heap.size w w' := by
  have HLt : Hid (zt.length = nt) := Lib.hid hIt.1
  have IVt := Lib.hid (fun W (hb : Below w.heap.size w W) => hIt.2.2.2.below hb)
  have hMt : nt ≤ 9223372036854775807 := Nat.le_trans hIt.2.1 (by unfold maxLen; omega)
  have ivh : IsCargos w w.heap.size Ah nh vh := ⟨hnh, Nat.le_refl _, hhh⟩
  have IVh := Lib.hid (fun W (hb : Below w.heap.size w W) => ivh.below hb (Nat.le_refl _))
  have HMh := Lib.hid hmh
  obtain ⟨L, x, hA⟩ := unsA_ex vh zt
  have HA := Lib.hid hA
  have HLB : Hid (L.length ≤ 36) := Lib.hid hA.len
  have hxx : (x != x) = false := by simp
  clear hA
  clear hnh hhh ivh
  clear hIt
  go_enter Try.func10, Try.ntmps10
  have S0 := Lib.hid (St.start w)
  by_cases bigt : 1048576 < nt
  · go_wp2_with fail
    go_ret
    exact ⟨rfl, S0.out.low⟩
  have HNt : Hid (nt ≤ 1048576) := Lib.hid (by omega)
  obtain ⟨lefth, l0h, l1h, lfh, szh⟩ := szCargoS_is Ah nh ch 1048576 HMh.out (by omega) (by omega)
  have SZh := Lib.hid szh
  clear szh
  go_wp2_with fail
  refine (SZh.out _).mono ?_
  rintro e w1 ⟨rfl, rfl⟩
  clear SZh
  by_cases negh : lefth < 0
  · go_wp2_with fail
    go_ret
    exact ⟨rfl, S0.out.low⟩
  have HNh : Hid (nh ≤ 1048576) := Lib.hid (by have := lfh (by omega); omega)
  go_wp2_with fail
  refine (toCargoS_is ch (IVh.out _ S0.out.low) HNh.out).mono ?_
  rintro e w2 ⟨t1, rfl, hown, -, hb⟩
  have zt1 := hown.lt t1 rfl
  have qt1 : w.heap.size ≤ t1 := Nat.le_trans S0.out.low.size zt1.1
  have S1 := Lib.hid ((S0.out.quiet hb).own (rCargo t1 nh nh (flatCargo vh)) (own_low hown S0.out.low.size))
  clear hb hown zt1 S0
  go_wp2_with fail
  refine (toI_ex At nt ct w.heap.size zt _ HLt.out HNt.out S1.out.low.size (IVt.out _ S1.out.low)).mono ?_
  rintro e w3 ⟨t2, rfl, hown, hb⟩
  have zt2 := hown.lt t2 rfl
  have dt2_t1 : t2 ≠ t1 := by have h1 := (S1.out.lt (r := rCargo t1 nh nh (flatCargo vh)) (by simp) (g := t1) rfl).2; have h2 := zt2.1; omega
  have qt2 : w.heap.size ≤ t2 := Nat.le_trans S1.out.low.size zt2.1
  have S2 := Lib.hid ((S1.out.quiet hb).own (ri t2 nt nt (zt.map (.int .i64))) (own_low hown S1.out.low.size))
  clear hb hown zt2 S1
  go_wp2_with fail
  refine (unsS_any _ _ (own_Cargos (S2.out.row (rCargo t1 nh nh (flatCargo vh)) (by simp))) HNh.out HLt.out HNt.out (Nat.le_refl _) (own_hasv (S2.out.row (ri t2 nt nt (zt.map (.int .i64))) (by simp))) L x HA.out).mono ?_
  rintro e w4 ⟨gw, cgw, Mgw, rfl, hL9, hown, hea9, hb⟩
  have zgw := hown.lt gw rfl
  have dgw_t2 : gw ≠ t2 := by have h1 := (S2.out.lt (r := ri t2 nt nt (zt.map (.int .i64))) (by simp) (g := t2) rfl).2; have h2 := zgw.1; omega
  have dgw_t1 : gw ≠ t1 := by have h1 := (S2.out.lt (r := rCargo t1 nh nh (flatCargo vh)) (by simp) (g := t1) rfl).2; have h2 := zgw.1; omega
  have qgw : w.heap.size ≤ gw := Nat.le_trans S2.out.low.size zgw.1
  have S3 := Lib.hid ((S2.out.quiet hb).own (rp gw Mgw.length cgw (Mgw.map valPr)) (own_low hown S2.out.low.size))
  have HLgw := Lib.hid hL9
  have HEgw := Lib.hid hea9
  have HDgw_t2 := Lib.hid (fun p (hp : p ∈ Mgw) => show p.g ≠ t2 from by have h1 := (hea9.box p hp).1; have h2 := (S2.out.lt (r := ri t2 nt nt (zt.map (.int .i64))) (by simp) (g := t2) rfl).2; omega)
  have HDgw_t1 := Lib.hid (fun p (hp : p ∈ Mgw) => show p.g ≠ t1 from by have h1 := (hea9.box p hp).1; have h2 := (S2.out.lt (r := rCargo t1 nh nh (flatCargo vh)) (by simp) (g := t1) rfl).2; omega)
  have hmgw : Mgw.length ≤ 36 := by rw [← numsPr_len, hL9]; exact HLB.out
  clear hL9 hea9
  clear hb hown zgw S2
  have S4 := Lib.hid (S3.out.sub (rows' := [rp gw Mgw.length cgw (Mgw.map valPr)]) (by simp))
  clear S3
  go_wp2_with fail
  refine (toCargoS_is ch (IVh.out _ S4.out.low) HNh.out).mono ?_
  rintro e w5 ⟨xh, rfl, hown, -, hb⟩
  have zxh := hown.lt xh rfl
  have HDgw_xh := Lib.hid (fun p (hp : p ∈ Mgw) => show p.g ≠ xh from by have h1 := (HEgw.out.box p hp).2.lt; have h2 := zxh.1; omega)
  replace HEgw := Lib.hid (HEgw.out.all hb)
  have dxh_gw : xh ≠ gw := by have h1 := (S4.out.lt (r := rp gw Mgw.length cgw (Mgw.map valPr)) (by simp) (g := gw) rfl).2; have h2 := zxh.1; omega
  have qxh : w.heap.size ≤ xh := Nat.le_trans S4.out.low.size zxh.1
  have S5 := Lib.hid ((S4.out.quiet hb).own (rCargo xh nh nh (flatCargo vh)) (own_low hown S4.out.low.size))
  clear hb hown zxh S4
  go_wp2_with fail
  refine (toI_ex At nt ct w.heap.size zt _ HLt.out HNt.out S5.out.low.size (IVt.out _ S5.out.low)).mono ?_
  rintro e w6 ⟨xt, rfl, hown, hb⟩
  have zxt := hown.lt xt rfl
  have HDgw_xt := Lib.hid (fun p (hp : p ∈ Mgw) => show p.g ≠ xt from by have h1 := (HEgw.out.box p hp).2.lt; have h2 := zxt.1; omega)
  replace HEgw := Lib.hid (HEgw.out.all hb)
  have dxt_xh : xt ≠ xh := by have h1 := (S5.out.lt (r := rCargo xh nh nh (flatCargo vh)) (by simp) (g := xh) rfl).2; have h2 := zxt.1; omega
  have dxt_gw : xt ≠ gw := by have h1 := (S5.out.lt (r := rp gw Mgw.length cgw (Mgw.map valPr)) (by simp) (g := gw) rfl).2; have h2 := zxt.1; omega
  have qxt : w.heap.size ≤ xt := Nat.le_trans S5.out.low.size zxt.1
  have S6 := Lib.hid ((S5.out.quiet hb).own (ri xt nt nt (zt.map (.int .i64))) (own_low hown S5.out.low.size))
  clear hb hown zxt S5
  go_wp2_with fail
  refine (unsI_any _ _ (own_Cargos (S6.out.row (rCargo xh nh nh (flatCargo vh)) (by simp))) HNh.out (Nat.le_refl _) HLt.out HNt.out (Nat.le_refl _) (own_hasv (S6.out.row (ri xt nt nt (zt.map (.int .i64))) (by simp))) L x HA.out).mono ?_
  rintro e w7 ⟨gg, cgg, Mgg, rfl, hL9, hown, hea9, hb⟩
  have zgg := hown.lt gg rfl
  have HGW0 := Lib.hid (fun p (hp : p ∈ Mgw) => (HEgw.out.box p hp).2.lt)
  have HDgw_gg := Lib.hid (fun p (hp : p ∈ Mgw) => show p.g ≠ gg from by have h1 := (HEgw.out.box p hp).2.lt; have h2 := zgg.1; omega)
  replace HEgw := Lib.hid (HEgw.out.all hb)
  have dgg_xt : gg ≠ xt := by have h1 := (S6.out.lt (r := ri xt nt nt (zt.map (.int .i64))) (by simp) (g := xt) rfl).2; have h2 := zgg.1; omega
  have dgg_xh : gg ≠ xh := by have h1 := (S6.out.lt (r := rCargo xh nh nh (flatCargo vh)) (by simp) (g := xh) rfl).2; have h2 := zgg.1; omega
  have dgg_gw : gg ≠ gw := by have h1 := (S6.out.lt (r := rp gw Mgw.length cgw (Mgw.map valPr)) (by simp) (g := gw) rfl).2; have h2 := zgg.1; omega
  have qgg : w.heap.size ≤ gg := Nat.le_trans S6.out.low.size zgg.1
  have S7 := Lib.hid ((S6.out.quiet hb).own (rp gg Mgg.length cgg (Mgg.map valPr)) (own_low hown S6.out.low.size))
  have HLgg := Lib.hid hL9
  have HEgg := Lib.hid hea9
  have HDgg_xt := Lib.hid (fun p (hp : p ∈ Mgg) => show p.g ≠ xt from by have h1 := (hea9.box p hp).1; have h2 := (S6.out.lt (r := ri xt nt nt (zt.map (.int .i64))) (by simp) (g := xt) rfl).2; omega)
  have HDgg_xh := Lib.hid (fun p (hp : p ∈ Mgg) => show p.g ≠ xh from by have h1 := (hea9.box p hp).1; have h2 := (S6.out.lt (r := rCargo xh nh nh (flatCargo vh)) (by simp) (g := xh) rfl).2; omega)
  have HDgg_gw := Lib.hid (fun p (hp : p ∈ Mgg) => show p.g ≠ gw from by have h1 := (hea9.box p hp).1; have h2 := (S6.out.lt (r := rp gw Mgw.length cgw (Mgw.map valPr)) (by simp) (g := gw) rfl).2; omega)
  have hbgg := S6.out.low.size
  have hgwb := (S6.out.lt (r := rp gw Mgw.length cgw (Mgw.map valPr)) (by simp) (g := gw) rfl).2
  have HGW := Lib.hid (fun p (hp : p ∈ Mgw) => HGW0.out p hp)
  have hmgg : Mgg.length ≤ 36 := by rw [← numsPr_len, hL9]; exact HLB.out
  clear hL9 hea9
  clear hb hown zgg S6
  go_wp2_with fail
  refine (eqPr_same (S7.out.row (rp gg Mgg.length cgg (Mgg.map valPr)) (by simp)) HEgg.out (S7.out.row (rp gw Mgw.length cgw (Mgw.map valPr)) (by simp)) HEgw.out (by rw [HLgg.out, HLgw.out]) (by omega)).mono ?_
  rintro e w8 ⟨rfl, hb⟩
  replace HEgw := Lib.hid (HEgw.out.all hb)
  replace HEgg := Lib.hid (HEgg.out.all hb)
  have S8 := Lib.hid (S7.out.quiet hb)
  clear hb S7
  go_wp2_with fail
  refine (toCargoS_is ch (IVh.out _ S8.out.low) HNh.out).mono ?_
  rintro e w9 ⟨t3, rfl, hown, -, hb⟩
  have zt3 := hown.lt t3 rfl
  have HDgw_t3 := Lib.hid (fun p (hp : p ∈ Mgw) => show p.g ≠ t3 from by have h1 := (HEgw.out.box p hp).2.lt; have h2 := zt3.1; omega)
  have HDgg_t3 := Lib.hid (fun p (hp : p ∈ Mgg) => show p.g ≠ t3 from by have h1 := (HEgg.out.box p hp).2.lt; have h2 := zt3.1; omega)
  replace HEgw := Lib.hid (HEgw.out.all hb)
  replace HEgg := Lib.hid (HEgg.out.all hb)
  have dt3_gg : t3 ≠ gg := by have h1 := (S8.out.lt (r := rp gg Mgg.length cgg (Mgg.map valPr)) (by simp) (g := gg) rfl).2; have h2 := zt3.1; omega
  have dt3_xt : t3 ≠ xt := by have h1 := (S8.out.lt (r := ri xt nt nt (zt.map (.int .i64))) (by simp) (g := xt) rfl).2; have h2 := zt3.1; omega
  have dt3_xh : t3 ≠ xh := by have h1 := (S8.out.lt (r := rCargo xh nh nh (flatCargo vh)) (by simp) (g := xh) rfl).2; have h2 := zt3.1; omega
  have dt3_gw : t3 ≠ gw := by have h1 := (S8.out.lt (r := rp gw Mgw.length cgw (Mgw.map valPr)) (by simp) (g := gw) rfl).2; have h2 := zt3.1; omega
  have qt3 : w.heap.size ≤ t3 := Nat.le_trans S8.out.low.size zt3.1
  have S9 := Lib.hid ((S8.out.quiet hb).own (rCargo t3 nh nh (flatCargo vh)) (own_low hown S8.out.low.size))
  clear hb hown zt3 S8
  go_wp2_with fail
  refine (eqCargoS_is _ _ (own_Cargos (S9.out.row (rCargo xh nh nh (flatCargo vh)) (by simp))) (own_Cargos (S9.out.row (rCargo t3 nh nh (flatCargo vh)) (by simp))) (Nat.le_trans HNh.out (by unfold maxLen; omega))).mono ?_
  rintro e w10 ⟨rfl, hb⟩
  replace HEgw := Lib.hid (HEgw.out.all hb)
  replace HEgg := Lib.hid (HEgg.out.all hb)
  have S10 := Lib.hid (S9.out.quiet hb)
  clear hb S9
  have S11 := Lib.hid (S10.out.sub (rows' := [rp gg Mgg.length cgg (Mgg.map valPr), ri xt nt nt (zt.map (.int .i64)), rCargo xh nh nh (flatCargo vh), rp gw Mgw.length cgw (Mgw.map valPr)]) (by simp))
  clear S10
  go_wp2_with fail
  refine (toI_ex At nt ct w.heap.size zt _ HLt.out HNt.out S11.out.low.size (IVt.out _ S11.out.low)).mono ?_
  rintro e w11 ⟨t4, rfl, hown, hb⟩
  have zt4 := hown.lt t4 rfl
  have HDgw_t4 := Lib.hid (fun p (hp : p ∈ Mgw) => show p.g ≠ t4 from by have h1 := (HEgw.out.box p hp).2.lt; have h2 := zt4.1; omega)
  have HDgg_t4 := Lib.hid (fun p (hp : p ∈ Mgg) => show p.g ≠ t4 from by have h1 := (HEgg.out.box p hp).2.lt; have h2 := zt4.1; omega)
  replace HEgw := Lib.hid (HEgw.out.all hb)
  replace HEgg := Lib.hid (HEgg.out.all hb)
  have dt4_gg : t4 ≠ gg := by have h1 := (S11.out.lt (r := rp gg Mgg.length cgg (Mgg.map valPr)) (by simp) (g := gg) rfl).2; have h2 := zt4.1; omega
  have dt4_xt : t4 ≠ xt := by have h1 := (S11.out.lt (r := ri xt nt nt (zt.map (.int .i64))) (by simp) (g := xt) rfl).2; have h2 := zt4.1; omega
  have dt4_xh : t4 ≠ xh := by have h1 := (S11.out.lt (r := rCargo xh nh nh (flatCargo vh)) (by simp) (g := xh) rfl).2; have h2 := zt4.1; omega
  have dt4_gw : t4 ≠ gw := by have h1 := (S11.out.lt (r := rp gw Mgw.length cgw (Mgw.map valPr)) (by simp) (g := gw) rfl).2; have h2 := zt4.1; omega
  have qt4 : w.heap.size ≤ t4 := Nat.le_trans S11.out.low.size zt4.1
  have S12 := Lib.hid ((S11.out.quiet hb).own (ri t4 nt nt (zt.map (.int .i64))) (own_low hown S11.out.low.size))
  clear hb hown zt4 S11
  go_wp2_with fail
  refine (eqI_same _ _ nt _ _ _ _ zt _ HLt.out (Nat.le_trans HNt.out (by unfold maxLen; omega)) (own_hasv (S12.out.row (ri xt nt nt (zt.map (.int .i64))) (by simp))) (own_hasv (S12.out.row (ri t4 nt nt (zt.map (.int .i64))) (by simp)))).mono ?_
  rintro e w12 ⟨rfl, hD⟩
  replace HEgw := Lib.hid (HEgw.out.all (hD.below _))
  replace HEgg := Lib.hid (HEgg.out.all (hD.below _))
  have S13 := Lib.hid (S12.out.drawn hD)
  clear hD S12
  have S14 := Lib.hid (S13.out.sub (rows' := [rp gg Mgg.length cgg (Mgg.map valPr), ri xt nt nt (zt.map (.int .i64)), rCargo xh nh nh (flatCargo vh), rp gw Mgw.length cgw (Mgw.map valPr)]) (by simp))
  clear S13
  have hNh := HNh.out
  go_wp2_with fail
  refine (markCargoS_any xh nh nh w.heap.size (1) _ _ (by omega) (by omega) (S14.out.row (rCargo xh nh nh (flatCargo vh)) (by simp))).mono ?_
  rintro e w13 ⟨rfl, hoM, hgr⟩
  replace HEgw := Lib.hid (HEgw.out.kept hgr (fun p hp => HDgw_xh.out p hp))
  replace HEgg := Lib.hid (HEgg.out.kept hgr (fun p hp => HDgg_xh.out p hp))
  have T8 := S14.out.sub (rows' := [rCargo xh nh nh (flatCargo vh), rp gg Mgg.length cgg (Mgg.map valPr), ri xt nt nt (zt.map (.int .i64)), rp gw Mgw.length cgw (Mgw.map valPr)]) (by simp)
  have S15 := Lib.hid (T8.turn (r' := rCargo xh nh nh (flatCargo (mkCargo (1) nh))) hgr (fun q e => by cases e; omega) (by first | (simp; omega) | simp) (by simp [Value.ownBlock]; omega) hoM)
  clear T8 hoM hgr S14
  have S16 := Lib.hid (S15.out.sub (rows' := [rp gg Mgg.length cgg (Mgg.map valPr), ri xt nt nt (zt.map (.int .i64)), rp gw Mgw.length cgw (Mgw.map valPr)]) (by simp))
  clear S15
  have hNt := HNt.out
  go_wp2_with fail
  refine (markI_any xt nt nt w.heap.size (1 + 3 * (nh : Int)) _ _ (by omega) (by omega) (S16.out.row (ri xt nt nt (zt.map (.int .i64))) (by simp))).mono ?_
  rintro e w14 ⟨rfl, hoM, hgr⟩
  replace HEgw := Lib.hid (HEgw.out.kept hgr (fun p hp => HDgw_xt.out p hp))
  replace HEgg := Lib.hid (HEgg.out.kept hgr (fun p hp => HDgg_xt.out p hp))
  have T8 := S16.out.sub (rows' := [ri xt nt nt (zt.map (.int .i64)), rp gg Mgg.length cgg (Mgg.map valPr), rp gw Mgw.length cgw (Mgw.map valPr)]) (by simp)
  have S17 := Lib.hid (T8.turn (r' := ri xt nt nt (nums (1 + 3 * (nh : Int)) nt)) hgr (fun q e => by cases e; omega) (by first | (simp; omega) | simp) (by simp [Value.ownBlock]; omega) hoM)
  clear T8 hoM hgr S16
  have S18 := Lib.hid (S17.out.sub (rows' := [rp gg Mgg.length cgg (Mgg.map valPr), rp gw Mgw.length cgw (Mgw.map valPr)]) (by simp))
  clear S17
  have hkk : ¬ (1 + 3 * (nh : Int) + (nt : Int) < 0) := by omega
  go_wp2_with fail
  refine (eqPr_same (S18.out.row (rp gg Mgg.length cgg (Mgg.map valPr)) (by simp)) HEgg.out (S18.out.row (rp gw Mgw.length cgw (Mgw.map valPr)) (by simp)) HEgw.out (by rw [HLgg.out, HLgw.out]) (by omega)).mono ?_
  rintro e w15 ⟨rfl, hb⟩
  replace HEgw := Lib.hid (HEgw.out.all hb)
  replace HEgg := Lib.hid (HEgg.out.all hb)
  have S19 := Lib.hid (S18.out.quiet hb)
  clear hb S18
  go_wp2_with fail
  refine (markPr_any 1 (by omega) (by omega) (by omega) (S19.out.row (rp gg Mgg.length cgg (Mgg.map valPr)) (by simp)) HEgg.out).mono ?_
  rintro e w16 ⟨rfl, hoM, heM, hbM⟩
  have S20 := Lib.hid (show St w [] [rp gg Mgg.length cgg (Mgg.map valPr), rp gw Mgw.length cgw (Mgw.map valPr)] w16 from ⟨S19.out.low.trans (hbM.mono hbgg), by simp, fun r hr => by
      simp only [List.mem_cons, List.not_mem_nil, or_false] at hr
      rcases hr with rfl | rfl
      · exact hoM
      · exact own_under (S19.out.row (rp gw Mgw.length cgw (Mgw.map valPr)) (by simp)) hbM hgwb⟩)
  replace HEgw := Lib.hid (HEgw.out.under hbM HGW.out)
  replace HEgg := Lib.hid heM
  clear hoM heM hbM S19
  go_wp2_with fail
  refine (heldPr_any 1 (by omega) (by omega) (by omega) (S20.out.row (rp gg Mgg.length cgg (Mgg.map valPr)) (by simp)) HEgg.out).mono ?_
  rintro e w17 ⟨rfl, rfl⟩
  have hq1 : ¬ (1 + 2 * (Mgg.length : Int) < 0) := by omega
  have hq2 : ((1 + 2 * (Mgg.length : Int)) != (1 + 2 * (Mgg.length : Int))) = false := by simp
  go_wp2_with fail
  refine (toCargoS_is ch (IVh.out _ S20.out.low) HNh.out).mono ?_
  rintro e w18 ⟨t5, rfl, hown, -, hb⟩
  have zt5 := hown.lt t5 rfl
  replace HEgw := Lib.hid (HEgw.out.all hb)
  replace HEgg := Lib.hid (HEgg.out.all hb)
  have dt5_gg : t5 ≠ gg := by have h1 := (S20.out.lt (r := rp gg Mgg.length cgg (Mgg.map valPr)) (by simp) (g := gg) rfl).2; have h2 := zt5.1; omega
  have dt5_gw : t5 ≠ gw := by have h1 := (S20.out.lt (r := rp gw Mgw.length cgw (Mgw.map valPr)) (by simp) (g := gw) rfl).2; have h2 := zt5.1; omega
  have qt5 : w.heap.size ≤ t5 := Nat.le_trans S20.out.low.size zt5.1
  have S21 := Lib.hid ((S20.out.quiet hb).own (rCargo t5 nh nh (flatCargo vh)) (own_low hown S20.out.low.size))
  clear hb hown zt5 S20
  go_wp2_with fail
  refine (toI_ex At nt ct w.heap.size zt _ HLt.out HNt.out S21.out.low.size (IVt.out _ S21.out.low)).mono ?_
  rintro e w19 ⟨t6, rfl, hown, hb⟩
  have zt6 := hown.lt t6 rfl
  replace HEgw := Lib.hid (HEgw.out.all hb)
  replace HEgg := Lib.hid (HEgg.out.all hb)
  have dt6_t5 : t6 ≠ t5 := by have h1 := (S21.out.lt (r := rCargo t5 nh nh (flatCargo vh)) (by simp) (g := t5) rfl).2; have h2 := zt6.1; omega
  have dt6_gg : t6 ≠ gg := by have h1 := (S21.out.lt (r := rp gg Mgg.length cgg (Mgg.map valPr)) (by simp) (g := gg) rfl).2; have h2 := zt6.1; omega
  have dt6_gw : t6 ≠ gw := by have h1 := (S21.out.lt (r := rp gw Mgw.length cgw (Mgw.map valPr)) (by simp) (g := gw) rfl).2; have h2 := zt6.1; omega
  have qt6 : w.heap.size ≤ t6 := Nat.le_trans S21.out.low.size zt6.1
  have S22 := Lib.hid ((S21.out.quiet hb).own (ri t6 nt nt (zt.map (.int .i64))) (own_low hown S21.out.low.size))
  clear hb hown zt6 S21
  go_wp2_with fail
  refine (unsI_any _ _ (own_Cargos (S22.out.row (rCargo t5 nh nh (flatCargo vh)) (by simp))) HNh.out (Nat.le_refl _) HLt.out HNt.out (Nat.le_refl _) (own_hasv (S22.out.row (ri t6 nt nt (zt.map (.int .i64))) (by simp))) L x HA.out).mono ?_
  rintro e w20 ⟨gh, cgh, Mgh, rfl, hL9, hown, hea9, hb⟩
  have zgh := hown.lt gh rfl
  replace HEgw := Lib.hid (HEgw.out.all hb)
  replace HEgg := Lib.hid (HEgg.out.all hb)
  have dgh_t6 : gh ≠ t6 := by have h1 := (S22.out.lt (r := ri t6 nt nt (zt.map (.int .i64))) (by simp) (g := t6) rfl).2; have h2 := zgh.1; omega
  have dgh_t5 : gh ≠ t5 := by have h1 := (S22.out.lt (r := rCargo t5 nh nh (flatCargo vh)) (by simp) (g := t5) rfl).2; have h2 := zgh.1; omega
  have dgh_gg : gh ≠ gg := by have h1 := (S22.out.lt (r := rp gg Mgg.length cgg (Mgg.map valPr)) (by simp) (g := gg) rfl).2; have h2 := zgh.1; omega
  have dgh_gw : gh ≠ gw := by have h1 := (S22.out.lt (r := rp gw Mgw.length cgw (Mgw.map valPr)) (by simp) (g := gw) rfl).2; have h2 := zgh.1; omega
  have qgh : w.heap.size ≤ gh := Nat.le_trans S22.out.low.size zgh.1
  have S23 := Lib.hid ((S22.out.quiet hb).own (rp gh Mgh.length cgh (Mgh.map valPr)) (own_low hown S22.out.low.size))
  have HLgh := Lib.hid hL9
  have HEgh := Lib.hid hea9
  have HDgh_t6 := Lib.hid (fun p (hp : p ∈ Mgh) => show p.g ≠ t6 from by have h1 := (hea9.box p hp).1; have h2 := (S22.out.lt (r := ri t6 nt nt (zt.map (.int .i64))) (by simp) (g := t6) rfl).2; omega)
  have HDgh_t5 := Lib.hid (fun p (hp : p ∈ Mgh) => show p.g ≠ t5 from by have h1 := (hea9.box p hp).1; have h2 := (S22.out.lt (r := rCargo t5 nh nh (flatCargo vh)) (by simp) (g := t5) rfl).2; omega)
  have HDgh_gg := Lib.hid (fun p (hp : p ∈ Mgh) => show p.g ≠ gg from by have h1 := (hea9.box p hp).1; have h2 := (S22.out.lt (r := rp gg Mgg.length cgg (Mgg.map valPr)) (by simp) (g := gg) rfl).2; omega)
  have HDgh_gw := Lib.hid (fun p (hp : p ∈ Mgh) => show p.g ≠ gw from by have h1 := (hea9.box p hp).1; have h2 := (S22.out.lt (r := rp gw Mgw.length cgw (Mgw.map valPr)) (by simp) (g := gw) rfl).2; omega)
  have hmgh : Mgh.length ≤ 36 := by rw [← numsPr_len, hL9]; exact HLB.out
  clear hL9 hea9
  clear hb hown zgh S22
  have S24 := Lib.hid (S23.out.sub (rows' := [rp gh Mgh.length cgh (Mgh.map valPr), rp gg Mgg.length cgg (Mgg.map valPr), rp gw Mgw.length cgw (Mgw.map valPr)]) (by simp))
  clear S23
  go_wp2_with fail
  refine (eqPr_same (S24.out.row (rp gh Mgh.length cgh (Mgh.map valPr)) (by simp)) HEgh.out (S24.out.row (rp gw Mgw.length cgw (Mgw.map valPr)) (by simp)) HEgw.out (by rw [HLgh.out, HLgw.out]) (by omega)).mono ?_
  rintro e w21 ⟨rfl, hb⟩
  replace HEgw := Lib.hid (HEgw.out.all hb)
  replace HEgg := Lib.hid (HEgg.out.all hb)
  replace HEgh := Lib.hid (HEgh.out.all hb)
  have S25 := Lib.hid (S24.out.quiet hb)
  clear hb S24
  go_wp2_with fail
  refine (heldPr_any 1 (by omega) (by omega) (by omega) (S25.out.row (rp gg Mgg.length cgg (Mgg.map valPr)) (by simp)) HEgg.out).mono ?_
  rintro e w22 ⟨rfl, rfl⟩
  go_wp2_with fail
  go_ret
  exact ⟨rfl, S25.out.low⟩
end Go.Proofs.Ytacpmckdfddmeaa.fnExactUnsafePairs
