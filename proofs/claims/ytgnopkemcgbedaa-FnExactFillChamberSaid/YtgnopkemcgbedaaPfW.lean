/- FillChamber answers as its model does, at every list and order; it writes into no argument and its answer owns its memory. -/
import Derived.Test.YtgnopkemcgbedaaPoI
import Derived.Test.YtgnopkemcgbedaaIntX
import Derived.Test.YtgnopkemcgbedaaCur
import Derived.Test.YtgnopkemcgbedaaSt0
import Derived.OpenShut
import Derived.ShutString
import Derived.ChangeOld
import Derived.WalkLawsBesides
import Derived.Lib.SmallJoins
import Derived.Deep.RegionHeld3
namespace Go.Proofs.Ytgnopkemcgbedaa.fnExactFillChamber
open Go.ChangeShapes Go.WideShapes Go.ChangeAt Go.RowKit
open Go.ChangeMaps (open_string shut_string)
set_option linter.unusedVariables false
set_option linter.unusedSimpArgs false

abbrev rPool (g n c : Nat) (xs : List Value) : RowOf := ⟨35, 3, .slice (some ⟨g, 0, none⟩) n c, n, xs⟩
abbrev ri (g n c : Nat) (xs : List Value) : RowOf := ⟨3, 1, .slice (some ⟨g, 0, none⟩) n c, n, xs⟩

theorem own_is {w : World} {A2 : Option Addr} {n2 : Nat} {os : List Int} (l2 : os.length = n2) (h2 : Has w w.heap.size A2 (os.map (.int .i64))) : IsIs w w.heap.size A2 n2 os := ⟨l2, Nat.le_refl _, h2⟩

set_option maxRecDepth 100000 in
set_option maxHeartbeats 4000000 in
theorem walk (Ab : Option Addr) (nb cb : Nat) (vb : List TPool) (At : Option Addr) (nt ct : Nat) (zt : List Int) (w : World) (hnb : vb.length = nb) (hmb : nb ≤ maxLen) (hhb : Has w w.heap.size Ab (flatPool vb)) (hIt : IsInts .i64 w At nt zt)  :
    Calls Try.prog 11 #[.slice Ab nb cb, .slice At nt ct] w fun e w' => e = .returned (.bool true) ∧ Below w.heap.size w w' := by
  have HLt : Hid (zt.length = nt) := Lib.hid hIt.1
  have IVt := Lib.hid (fun W (hb : Below w.heap.size w W) => hIt.2.2.2.below hb)
  have hMt : nt ≤ 9223372036854775807 := Nat.le_trans hIt.2.1 (by unfold maxLen; omega)
  have ivb : IsPools w w.heap.size Ab nb vb := ⟨hnb, Nat.le_refl _, hhb⟩
  have IVb := Lib.hid (fun W (hb : Below w.heap.size w W) => ivb.below hb (Nat.le_refl _))
  have HMb := Lib.hid hmb
  obtain ⟨L, z, x, hA⟩ := runP_ex vb zt false
  have HA := Lib.hid hA
  have HLB : Hid (L.length ≤ 5) := Lib.hid hA.len
  have hzz : (z != z) = false := by simp
  have hxx : (x != x) = false := by simp
  clear hA
  clear hnb hhb ivb
  clear hIt
  go_enter Try.func11, Try.ntmps11
  have S0 := Lib.hid (St.start w)
  by_cases bigt : 1048576 < nt
  · go_wp2_with fail
    go_ret
    exact ⟨rfl, S0.out.low⟩
  have HNt : Hid (nt ≤ 1048576) := Lib.hid (by omega)
  obtain ⟨leftb, l0b, l1b, lfb, szb⟩ := szPoolS_is Ab nb cb 1048576 HMb.out (by omega) (by omega)
  have SZb := Lib.hid szb
  clear szb
  go_wp2_with fail
  refine (SZb.out _).mono ?_
  rintro e w1 ⟨rfl, rfl⟩
  clear SZb
  by_cases negb : leftb < 0
  · go_wp2_with fail
    go_ret
    exact ⟨rfl, S0.out.low⟩
  have HNb : Hid (nb ≤ 1048576) := Lib.hid (by have := lfb (by omega); omega)
  obtain ⟨Ln, hLn⟩ : ∃ k, L.length = k := ⟨_, rfl⟩
  have HLn := Lib.hid hLn
  have hLb : Ln ≤ 5 := by rw [← hLn]; exact HLB.out
  clear hLn
  go_wp2_with fail
  refine (toPoolS_is cb (IVb.out _ S0.out.low) HNb.out).mono ?_
  rintro e w2 ⟨t1, rfl, hown, -, hb⟩
  have zt1 := hown.lt t1 rfl
  have qt1 : w.heap.size ≤ t1 := Nat.le_trans S0.out.low.size zt1.1
  have S1 := Lib.hid ((S0.out.quiet hb).own (rPool t1 nb nb (flatPool vb)) (own_low hown S0.out.low.size))
  clear hb hown zt1 S0
  go_wp2_with fail
  refine (toI_ex At nt ct w.heap.size zt _ HLt.out HNt.out S1.out.low.size (IVt.out _ S1.out.low)).mono ?_
  rintro e w3 ⟨t2, rfl, hown, hb⟩
  have zt2 := hown.lt t2 rfl
  have dt2_t1 : t2 ≠ t1 := by have h1 := (S1.out.lt (r := rPool t1 nb nb (flatPool vb)) (by simp) (g := t1) rfl).2; have h2 := zt2.1; omega
  have qt2 : w.heap.size ≤ t2 := Nat.le_trans S1.out.low.size zt2.1
  have S2 := Lib.hid ((S1.out.quiet hb).own (ri t2 nt nt (zt.map (.int .i64))) (own_low hown S1.out.low.size))
  clear hb hown zt2 S1
  go_wp2_with fail
  refine (fillS_any _ _ (own_Pools (S2.out.row (rPool t1 nb nb (flatPool vb)) (by simp))) HNb.out (own_is HLt.out (own_hasv (S2.out.row (ri t2 nt nt (zt.map (.int .i64))) (by simp)))) HNt.out (Nat.le_refl _) L z x HA.out Ln HLn.out).mono ?_
  rintro e w4 ⟨gw, cgw, rfl, hown, hb⟩
  have zgw := hown.lt gw rfl
  have dgw_t2 : gw ≠ t2 := by have h1 := (S2.out.lt (r := ri t2 nt nt (zt.map (.int .i64))) (by simp) (g := t2) rfl).2; have h2 := zgw.1; omega
  have dgw_t1 : gw ≠ t1 := by have h1 := (S2.out.lt (r := rPool t1 nb nb (flatPool vb)) (by simp) (g := t1) rfl).2; have h2 := zgw.1; omega
  have qgw : w.heap.size ≤ gw := Nat.le_trans S2.out.low.size zgw.1
  have S3 := Lib.hid ((S2.out.quiet hb).own (rPool gw Ln cgw (flatPool L)) (own_low hown S2.out.low.size))
  clear hb hown zgw S2
  have S4 := Lib.hid (S3.out.sub (rows' := [rPool gw Ln cgw (flatPool L)]) (by simp))
  clear S3
  go_wp2_with fail
  refine (toPoolS_is cb (IVb.out _ S4.out.low) HNb.out).mono ?_
  rintro e w5 ⟨xb, rfl, hown, -, hb⟩
  have zxb := hown.lt xb rfl
  have dxb_gw : xb ≠ gw := by have h1 := (S4.out.lt (r := rPool gw Ln cgw (flatPool L)) (by simp) (g := gw) rfl).2; have h2 := zxb.1; omega
  have qxb : w.heap.size ≤ xb := Nat.le_trans S4.out.low.size zxb.1
  have S5 := Lib.hid ((S4.out.quiet hb).own (rPool xb nb nb (flatPool vb)) (own_low hown S4.out.low.size))
  clear hb hown zxb S4
  go_wp2_with fail
  refine (toI_ex At nt ct w.heap.size zt _ HLt.out HNt.out S5.out.low.size (IVt.out _ S5.out.low)).mono ?_
  rintro e w6 ⟨xt, rfl, hown, hb⟩
  have zxt := hown.lt xt rfl
  have dxt_xb : xt ≠ xb := by have h1 := (S5.out.lt (r := rPool xb nb nb (flatPool vb)) (by simp) (g := xb) rfl).2; have h2 := zxt.1; omega
  have dxt_gw : xt ≠ gw := by have h1 := (S5.out.lt (r := rPool gw Ln cgw (flatPool L)) (by simp) (g := gw) rfl).2; have h2 := zxt.1; omega
  have qxt : w.heap.size ≤ xt := Nat.le_trans S5.out.low.size zxt.1
  have S6 := Lib.hid ((S5.out.quiet hb).own (ri xt nt nt (zt.map (.int .i64))) (own_low hown S5.out.low.size))
  clear hb hown zxt S5
  go_wp2_with fail
  refine (fillI_any _ _ (own_Pools (S6.out.row (rPool xb nb nb (flatPool vb)) (by simp))) HNb.out (own_is HLt.out (own_hasv (S6.out.row (ri xt nt nt (zt.map (.int .i64))) (by simp)))) HNt.out (Nat.le_refl _) L z x HA.out Ln HLn.out).mono ?_
  rintro e w7 ⟨gg, cgg, rfl, hown, hb⟩
  have zgg := hown.lt gg rfl
  have dgg_xt : gg ≠ xt := by have h1 := (S6.out.lt (r := ri xt nt nt (zt.map (.int .i64))) (by simp) (g := xt) rfl).2; have h2 := zgg.1; omega
  have dgg_xb : gg ≠ xb := by have h1 := (S6.out.lt (r := rPool xb nb nb (flatPool vb)) (by simp) (g := xb) rfl).2; have h2 := zgg.1; omega
  have dgg_gw : gg ≠ gw := by have h1 := (S6.out.lt (r := rPool gw Ln cgw (flatPool L)) (by simp) (g := gw) rfl).2; have h2 := zgg.1; omega
  have qgg : w.heap.size ≤ gg := Nat.le_trans S6.out.low.size zgg.1
  have S7 := Lib.hid ((S6.out.quiet hb).own (rPool gg Ln cgg (flatPool L)) (own_low hown S6.out.low.size))
  clear hb hown zgg S6
  go_wp2_with fail
  refine (eqPoolS_is _ _ (own_Pools (S7.out.row (rPool gg Ln cgg (flatPool L)) (by simp))) (own_Pools (S7.out.row (rPool gw Ln cgw (flatPool L)) (by simp))) (by unfold maxLen; omega)).mono ?_
  rintro e w8 ⟨rfl, hb⟩
  have S8 := Lib.hid (S7.out.quiet hb)
  clear hb S7
  go_wp2_with fail
  refine (toPoolS_is cb (IVb.out _ S8.out.low) HNb.out).mono ?_
  rintro e w9 ⟨t3, rfl, hown, -, hb⟩
  have zt3 := hown.lt t3 rfl
  have dt3_gg : t3 ≠ gg := by have h1 := (S8.out.lt (r := rPool gg Ln cgg (flatPool L)) (by simp) (g := gg) rfl).2; have h2 := zt3.1; omega
  have dt3_xt : t3 ≠ xt := by have h1 := (S8.out.lt (r := ri xt nt nt (zt.map (.int .i64))) (by simp) (g := xt) rfl).2; have h2 := zt3.1; omega
  have dt3_xb : t3 ≠ xb := by have h1 := (S8.out.lt (r := rPool xb nb nb (flatPool vb)) (by simp) (g := xb) rfl).2; have h2 := zt3.1; omega
  have dt3_gw : t3 ≠ gw := by have h1 := (S8.out.lt (r := rPool gw Ln cgw (flatPool L)) (by simp) (g := gw) rfl).2; have h2 := zt3.1; omega
  have qt3 : w.heap.size ≤ t3 := Nat.le_trans S8.out.low.size zt3.1
  have S9 := Lib.hid ((S8.out.quiet hb).own (rPool t3 nb nb (flatPool vb)) (own_low hown S8.out.low.size))
  clear hb hown zt3 S8
  go_wp2_with fail
  refine (eqPoolS_is _ _ (own_Pools (S9.out.row (rPool xb nb nb (flatPool vb)) (by simp))) (own_Pools (S9.out.row (rPool t3 nb nb (flatPool vb)) (by simp))) (Nat.le_trans HNb.out (by unfold maxLen; omega))).mono ?_
  rintro e w10 ⟨rfl, hb⟩
  have S10 := Lib.hid (S9.out.quiet hb)
  clear hb S9
  have S11 := Lib.hid (S10.out.sub (rows' := [rPool gg Ln cgg (flatPool L), ri xt nt nt (zt.map (.int .i64)), rPool xb nb nb (flatPool vb), rPool gw Ln cgw (flatPool L)]) (by simp))
  clear S10
  go_wp2_with fail
  refine (toI_ex At nt ct w.heap.size zt _ HLt.out HNt.out S11.out.low.size (IVt.out _ S11.out.low)).mono ?_
  rintro e w11 ⟨t4, rfl, hown, hb⟩
  have zt4 := hown.lt t4 rfl
  have dt4_gg : t4 ≠ gg := by have h1 := (S11.out.lt (r := rPool gg Ln cgg (flatPool L)) (by simp) (g := gg) rfl).2; have h2 := zt4.1; omega
  have dt4_xt : t4 ≠ xt := by have h1 := (S11.out.lt (r := ri xt nt nt (zt.map (.int .i64))) (by simp) (g := xt) rfl).2; have h2 := zt4.1; omega
  have dt4_xb : t4 ≠ xb := by have h1 := (S11.out.lt (r := rPool xb nb nb (flatPool vb)) (by simp) (g := xb) rfl).2; have h2 := zt4.1; omega
  have dt4_gw : t4 ≠ gw := by have h1 := (S11.out.lt (r := rPool gw Ln cgw (flatPool L)) (by simp) (g := gw) rfl).2; have h2 := zt4.1; omega
  have qt4 : w.heap.size ≤ t4 := Nat.le_trans S11.out.low.size zt4.1
  have S12 := Lib.hid ((S11.out.quiet hb).own (ri t4 nt nt (zt.map (.int .i64))) (own_low hown S11.out.low.size))
  clear hb hown zt4 S11
  go_wp2_with fail
  refine (eqI_same _ _ nt _ _ _ _ zt _ HLt.out (Nat.le_trans HNt.out (by unfold maxLen; omega)) (own_hasv (S12.out.row (ri xt nt nt (zt.map (.int .i64))) (by simp))) (own_hasv (S12.out.row (ri t4 nt nt (zt.map (.int .i64))) (by simp)))).mono ?_
  rintro e w12 ⟨rfl, hD⟩
  have S13 := Lib.hid (S12.out.drawn hD)
  clear hD S12
  have S14 := Lib.hid (S13.out.sub (rows' := [rPool gg Ln cgg (flatPool L), ri xt nt nt (zt.map (.int .i64)), rPool xb nb nb (flatPool vb), rPool gw Ln cgw (flatPool L)]) (by simp))
  clear S13
  have hNb := HNb.out
  go_wp2_with fail
  refine (markPoolS_any xb nb nb w.heap.size (1) _ _ (by omega) (by omega) (S14.out.row (rPool xb nb nb (flatPool vb)) (by simp))).mono ?_
  rintro e w13 ⟨rfl, hoM, hgr⟩
  have T8 := S14.out.sub (rows' := [rPool xb nb nb (flatPool vb), rPool gg Ln cgg (flatPool L), ri xt nt nt (zt.map (.int .i64)), rPool gw Ln cgw (flatPool L)]) (by simp)
  have S15 := Lib.hid (T8.turn (r' := rPool xb nb nb (flatPool (mkPool (1) nb))) hgr (fun q e => by cases e; omega) (by first | (simp; omega) | simp) (by simp [Value.ownBlock]; omega) hoM)
  clear T8 hoM hgr S14
  have S16 := Lib.hid (S15.out.sub (rows' := [rPool gg Ln cgg (flatPool L), ri xt nt nt (zt.map (.int .i64)), rPool gw Ln cgw (flatPool L)]) (by simp))
  clear S15
  have hNt := HNt.out
  go_wp2_with fail
  refine (markI_any xt nt nt w.heap.size (1 + 3 * (nb : Int)) _ _ (by omega) (by omega) (S16.out.row (ri xt nt nt (zt.map (.int .i64))) (by simp))).mono ?_
  rintro e w14 ⟨rfl, hoM, hgr⟩
  have T8 := S16.out.sub (rows' := [ri xt nt nt (zt.map (.int .i64)), rPool gg Ln cgg (flatPool L), rPool gw Ln cgw (flatPool L)]) (by simp)
  have S17 := Lib.hid (T8.turn (r' := ri xt nt nt (nums (1 + 3 * (nb : Int)) nt)) hgr (fun q e => by cases e; omega) (by first | (simp; omega) | simp) (by simp [Value.ownBlock]; omega) hoM)
  clear T8 hoM hgr S16
  have S18 := Lib.hid (S17.out.sub (rows' := [rPool gg Ln cgg (flatPool L), rPool gw Ln cgw (flatPool L)]) (by simp))
  clear S17
  have hkk : ¬ (1 + 3 * (nb : Int) + (nt : Int) < 0) := by omega
  go_wp2_with fail
  refine (eqPoolS_is _ _ (own_Pools (S18.out.row (rPool gg Ln cgg (flatPool L)) (by simp))) (own_Pools (S18.out.row (rPool gw Ln cgw (flatPool L)) (by simp))) (by unfold maxLen; omega)).mono ?_
  rintro e w15 ⟨rfl, hb⟩
  have S19 := Lib.hid (S18.out.quiet hb)
  clear hb S18
  go_wp2_with fail
  refine (markPoolS_any gg Ln cgg w.heap.size (1) _ _ (by omega) (by omega) (S19.out.row (rPool gg Ln cgg (flatPool L)) (by simp))).mono ?_
  rintro e w16 ⟨rfl, hoM, hgr⟩
  have T8 := S19.out.sub (rows' := [rPool gg Ln cgg (flatPool L), rPool gw Ln cgw (flatPool L)]) (by simp)
  have S20 := Lib.hid (T8.turn (r' := rPool gg Ln cgg (flatPool (mkPool (1) Ln))) hgr (fun q e => by cases e; omega) (by first | (simp; omega) | simp) (by simp [Value.ownBlock]; omega) hoM)
  clear T8 hoM hgr S19
  go_wp2_with fail
  refine (heldPoolS_any _ Ln cgg _ 1 _ (by omega) (by omega) (Nat.le_refl _) (own_hasv (S20.out.row (rPool gg Ln cgg (flatPool (mkPool (1) Ln))) (by simp)))).mono ?_
  rintro e w17 ⟨rfl, hb⟩
  have S21 := Lib.hid (S20.out.quiet hb)
  clear hb S20
  have hq1 : ¬ (1 + 3 * (Ln : Int) < 0) := by omega
  have hq2 : ((1 + 3 * (Ln : Int)) != (1 + 3 * (Ln : Int))) = false := by simp
  go_wp2_with fail
  refine (toPoolS_is cb (IVb.out _ S21.out.low) HNb.out).mono ?_
  rintro e w18 ⟨t5, rfl, hown, -, hb⟩
  have zt5 := hown.lt t5 rfl
  have dt5_gg : t5 ≠ gg := by have h1 := (S21.out.lt (r := rPool gg Ln cgg (flatPool (mkPool (1) Ln))) (by simp) (g := gg) rfl).2; have h2 := zt5.1; omega
  have dt5_gw : t5 ≠ gw := by have h1 := (S21.out.lt (r := rPool gw Ln cgw (flatPool L)) (by simp) (g := gw) rfl).2; have h2 := zt5.1; omega
  have qt5 : w.heap.size ≤ t5 := Nat.le_trans S21.out.low.size zt5.1
  have S22 := Lib.hid ((S21.out.quiet hb).own (rPool t5 nb nb (flatPool vb)) (own_low hown S21.out.low.size))
  clear hb hown zt5 S21
  go_wp2_with fail
  refine (toI_ex At nt ct w.heap.size zt _ HLt.out HNt.out S22.out.low.size (IVt.out _ S22.out.low)).mono ?_
  rintro e w19 ⟨t6, rfl, hown, hb⟩
  have zt6 := hown.lt t6 rfl
  have dt6_t5 : t6 ≠ t5 := by have h1 := (S22.out.lt (r := rPool t5 nb nb (flatPool vb)) (by simp) (g := t5) rfl).2; have h2 := zt6.1; omega
  have dt6_gg : t6 ≠ gg := by have h1 := (S22.out.lt (r := rPool gg Ln cgg (flatPool (mkPool (1) Ln))) (by simp) (g := gg) rfl).2; have h2 := zt6.1; omega
  have dt6_gw : t6 ≠ gw := by have h1 := (S22.out.lt (r := rPool gw Ln cgw (flatPool L)) (by simp) (g := gw) rfl).2; have h2 := zt6.1; omega
  have qt6 : w.heap.size ≤ t6 := Nat.le_trans S22.out.low.size zt6.1
  have S23 := Lib.hid ((S22.out.quiet hb).own (ri t6 nt nt (zt.map (.int .i64))) (own_low hown S22.out.low.size))
  clear hb hown zt6 S22
  go_wp2_with fail
  refine (fillI_any _ _ (own_Pools (S23.out.row (rPool t5 nb nb (flatPool vb)) (by simp))) HNb.out (own_is HLt.out (own_hasv (S23.out.row (ri t6 nt nt (zt.map (.int .i64))) (by simp)))) HNt.out (Nat.le_refl _) L z x HA.out Ln HLn.out).mono ?_
  rintro e w20 ⟨gh, cgh, rfl, hown, hb⟩
  have zgh := hown.lt gh rfl
  have dgh_t6 : gh ≠ t6 := by have h1 := (S23.out.lt (r := ri t6 nt nt (zt.map (.int .i64))) (by simp) (g := t6) rfl).2; have h2 := zgh.1; omega
  have dgh_t5 : gh ≠ t5 := by have h1 := (S23.out.lt (r := rPool t5 nb nb (flatPool vb)) (by simp) (g := t5) rfl).2; have h2 := zgh.1; omega
  have dgh_gg : gh ≠ gg := by have h1 := (S23.out.lt (r := rPool gg Ln cgg (flatPool (mkPool (1) Ln))) (by simp) (g := gg) rfl).2; have h2 := zgh.1; omega
  have dgh_gw : gh ≠ gw := by have h1 := (S23.out.lt (r := rPool gw Ln cgw (flatPool L)) (by simp) (g := gw) rfl).2; have h2 := zgh.1; omega
  have qgh : w.heap.size ≤ gh := Nat.le_trans S23.out.low.size zgh.1
  have S24 := Lib.hid ((S23.out.quiet hb).own (rPool gh Ln cgh (flatPool L)) (own_low hown S23.out.low.size))
  clear hb hown zgh S23
  have S25 := Lib.hid (S24.out.sub (rows' := [rPool gh Ln cgh (flatPool L), rPool gg Ln cgg (flatPool (mkPool (1) Ln)), rPool gw Ln cgw (flatPool L)]) (by simp))
  clear S24
  go_wp2_with fail
  refine (eqPoolS_is _ _ (own_Pools (S25.out.row (rPool gh Ln cgh (flatPool L)) (by simp))) (own_Pools (S25.out.row (rPool gw Ln cgw (flatPool L)) (by simp))) (by unfold maxLen; omega)).mono ?_
  rintro e w21 ⟨rfl, hb⟩
  have S26 := Lib.hid (S25.out.quiet hb)
  clear hb S25
  go_wp2_with fail
  refine (heldPoolS_any _ Ln cgg _ 1 _ (by omega) (by omega) (Nat.le_refl _) (own_hasv (S26.out.row (rPool gg Ln cgg (flatPool (mkPool (1) Ln))) (by simp)))).mono ?_
  rintro e w22 ⟨rfl, hb⟩
  have S27 := Lib.hid (S26.out.quiet hb)
  clear hb S26
  go_wp2_with fail
  go_ret
  exact ⟨rfl, S27.out.low⟩
end Go.Proofs.Ytgnopkemcgbedaa.fnExactFillChamber
