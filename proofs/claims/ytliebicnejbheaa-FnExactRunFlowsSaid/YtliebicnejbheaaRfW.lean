/- RunFlows answers as its model does, at every list of Basins and of Flows; it writes into no argument and its answer owns its memory. -/
import Derived.Test.YtliebicnejbheaaWaE
import Derived.Test.YtliebicnejbheaaSt0
import Derived.OpenShut
import Derived.ShutString
import Derived.ChangeOld
import Derived.WalkLawsBesides
import Derived.Lib.SmallJoins
import Derived.Deep.RegionHeld3
namespace Go.Proofs.Ytliebicnejbheaa.fnExactRunFlows
open Go.ChangeShapes Go.WideShapes Go.ChangeAt Go.RowKit
open Go.ChangeMaps (open_string shut_string)
set_option linter.unusedVariables false
set_option linter.unusedSimpArgs false

abbrev rBasin (g n c : Nat) (xs : List Value) : RowOf := ⟨53, 3, .slice (some ⟨g, 0, none⟩) n c, n, xs⟩
abbrev rFlow (g n c : Nat) (xs : List Value) : RowOf := ⟨38, 3, .slice (some ⟨g, 0, none⟩) n c, n, xs⟩
abbrev ri (g n c : Nat) (xs : List Value) : RowOf := ⟨3, 1, .slice (some ⟨g, 0, none⟩) n c, n, xs⟩

set_option maxRecDepth 100000 in
set_option maxHeartbeats 4000000 in
theorem walk (Ab : Option Addr) (nb cb : Nat) (vb : List TBasin) (Af : Option Addr) (nf cf : Nat) (vf : List TFlow) (w : World) (hnb : vb.length = nb) (hmb : nb ≤ maxLen) (hhb : Has w w.heap.size Ab (flatBasin vb)) (hnf : vf.length = nf) (hmf : nf ≤ maxLen) (hhf : Has w w.heap.size Af (flatFlow vf))  :
    Calls Try.prog 8 #[.slice Ab nb cb, .slice Af nf cf] w fun e w' => e = .returned (.bool true) ∧ Below w.heap.size w w' := by
  have ivb : IsBasins w w.heap.size Ab nb vb := ⟨hnb, Nat.le_refl _, hhb⟩
  have IVb := Lib.hid (fun W (hb : Below w.heap.size w W) => ivb.below hb (Nat.le_refl _))
  have HMb := Lib.hid hmb
  have ivf : IsFlows w w.heap.size Af nf vf := ⟨hnf, Nat.le_refl _, hhf⟩
  have IVf := Lib.hid (fun W (hb : Below w.heap.size w W) => ivf.below hb (Nat.le_refl _))
  have HMf := Lib.hid hmf
  obtain ⟨L, z, x, hA⟩ := runWA_ex vb vf
  have HA := Lib.hid hA
  have HLB : Hid (L.length ≤ 6) := Lib.hid hA.len
  have hzz : (z != z) = false := by simp
  have hxx : (x != x) = false := by simp
  clear hA
  clear hnb hhb ivb hnf hhf ivf
  go_enter Try.func8, Try.ntmps8
  have S0 := Lib.hid (St.start w)
  obtain ⟨leftb, l0b, l1b, lfb, szb⟩ := szBasinS_is Ab nb cb 1048576 HMb.out (by omega) (by omega)
  have SZb := Lib.hid szb
  clear szb
  go_wp2_with fail
  refine (SZb.out _).mono ?_
  rintro e w1 ⟨rfl, rfl⟩
  clear SZb
  by_cases negb : leftb < 0
  · go_wp2_with fail
    go_ret
    exact ⟨rfl, S0.out.low⟩
  obtain ⟨leftf, l0f, l1f, lff, szf⟩ := szFlowS_is Af nf cf leftb HMf.out (by omega) (by omega)
  have SZf := Lib.hid szf
  clear szf
  go_wp2_with fail
  refine (SZf.out _).mono ?_
  rintro e w2 ⟨rfl, rfl⟩
  clear SZf
  by_cases negf : leftf < 0
  · go_wp2_with fail
    go_ret
    exact ⟨rfl, S0.out.low⟩
  have HNb : Hid (nb ≤ 1048576) := Lib.hid (by have := lfb (by omega); omega)
  have HNf : Hid (nf ≤ 1048576) := Lib.hid (by have := lff (by omega); omega)
  obtain ⟨Ln, hLn⟩ : ∃ k, L.length = k := ⟨_, rfl⟩
  have HLn := Lib.hid hLn
  have hLb : Ln ≤ 6 := by rw [← hLn]; exact HLB.out
  clear hLn
  go_wp2_with fail
  refine (toBasinS_is cb (IVb.out _ S0.out.low) HNb.out).mono ?_
  rintro e w3 ⟨t1, rfl, hown, -, hb⟩
  have zt1 := hown.lt t1 rfl
  have qt1 : w.heap.size ≤ t1 := Nat.le_trans S0.out.low.size zt1.1
  have S1 := Lib.hid ((S0.out.quiet hb).own (rBasin t1 nb nb (flatBasin vb)) (own_low hown S0.out.low.size))
  clear hb hown zt1 S0
  go_wp2_with fail
  refine (toFlowS_is cf (IVf.out _ S1.out.low) HNf.out).mono ?_
  rintro e w4 ⟨t2, rfl, hown, -, hb⟩
  have zt2 := hown.lt t2 rfl
  have dt2_t1 : t2 ≠ t1 := by have h1 := (S1.out.lt (r := rBasin t1 nb nb (flatBasin vb)) (by simp) (g := t1) rfl).2; have h2 := zt2.1; omega
  have qt2 : w.heap.size ≤ t2 := Nat.le_trans S1.out.low.size zt2.1
  have S2 := Lib.hid ((S1.out.quiet hb).own (rFlow t2 nf nf (flatFlow vf)) (own_low hown S1.out.low.size))
  clear hb hown zt2 S1
  go_wp2_with fail
  refine (runS_any _ _ (own_Basins (S2.out.row (rBasin t1 nb nb (flatBasin vb)) (by simp))) HNb.out (own_Flows (S2.out.row (rFlow t2 nf nf (flatFlow vf)) (by simp))) HNf.out L z x HA.out Ln HLn.out).mono ?_
  rintro e w5 ⟨gw, cgw, rfl, hown, hb⟩
  have zgw := hown.lt gw rfl
  have dgw_t2 : gw ≠ t2 := by have h1 := (S2.out.lt (r := rFlow t2 nf nf (flatFlow vf)) (by simp) (g := t2) rfl).2; have h2 := zgw.1; omega
  have dgw_t1 : gw ≠ t1 := by have h1 := (S2.out.lt (r := rBasin t1 nb nb (flatBasin vb)) (by simp) (g := t1) rfl).2; have h2 := zgw.1; omega
  have qgw : w.heap.size ≤ gw := Nat.le_trans S2.out.low.size zgw.1
  have S3 := Lib.hid ((S2.out.quiet hb).own (rBasin gw Ln cgw (flatBasin L)) (own_low hown S2.out.low.size))
  clear hb hown zgw S2
  have S4 := Lib.hid (S3.out.sub (rows' := [rBasin gw Ln cgw (flatBasin L)]) (by simp))
  clear S3
  go_wp2_with fail
  refine (toBasinS_is cb (IVb.out _ S4.out.low) HNb.out).mono ?_
  rintro e w6 ⟨xb, rfl, hown, -, hb⟩
  have zxb := hown.lt xb rfl
  have dxb_gw : xb ≠ gw := by have h1 := (S4.out.lt (r := rBasin gw Ln cgw (flatBasin L)) (by simp) (g := gw) rfl).2; have h2 := zxb.1; omega
  have qxb : w.heap.size ≤ xb := Nat.le_trans S4.out.low.size zxb.1
  have S5 := Lib.hid ((S4.out.quiet hb).own (rBasin xb nb nb (flatBasin vb)) (own_low hown S4.out.low.size))
  clear hb hown zxb S4
  go_wp2_with fail
  refine (toFlowS_is cf (IVf.out _ S5.out.low) HNf.out).mono ?_
  rintro e w7 ⟨xf, rfl, hown, -, hb⟩
  have zxf := hown.lt xf rfl
  have dxf_xb : xf ≠ xb := by have h1 := (S5.out.lt (r := rBasin xb nb nb (flatBasin vb)) (by simp) (g := xb) rfl).2; have h2 := zxf.1; omega
  have dxf_gw : xf ≠ gw := by have h1 := (S5.out.lt (r := rBasin gw Ln cgw (flatBasin L)) (by simp) (g := gw) rfl).2; have h2 := zxf.1; omega
  have qxf : w.heap.size ≤ xf := Nat.le_trans S5.out.low.size zxf.1
  have S6 := Lib.hid ((S5.out.quiet hb).own (rFlow xf nf nf (flatFlow vf)) (own_low hown S5.out.low.size))
  clear hb hown zxf S5
  go_wp2_with fail
  refine (runI_any _ _ (own_Basins (S6.out.row (rBasin xb nb nb (flatBasin vb)) (by simp))) HNb.out (own_Flows (S6.out.row (rFlow xf nf nf (flatFlow vf)) (by simp))) HNf.out L z x HA.out Ln HLn.out).mono ?_
  rintro e w8 ⟨gg, cgg, rfl, hown, hb⟩
  have zgg := hown.lt gg rfl
  have dgg_xf : gg ≠ xf := by have h1 := (S6.out.lt (r := rFlow xf nf nf (flatFlow vf)) (by simp) (g := xf) rfl).2; have h2 := zgg.1; omega
  have dgg_xb : gg ≠ xb := by have h1 := (S6.out.lt (r := rBasin xb nb nb (flatBasin vb)) (by simp) (g := xb) rfl).2; have h2 := zgg.1; omega
  have dgg_gw : gg ≠ gw := by have h1 := (S6.out.lt (r := rBasin gw Ln cgw (flatBasin L)) (by simp) (g := gw) rfl).2; have h2 := zgg.1; omega
  have qgg : w.heap.size ≤ gg := Nat.le_trans S6.out.low.size zgg.1
  have S7 := Lib.hid ((S6.out.quiet hb).own (rBasin gg Ln cgg (flatBasin L)) (own_low hown S6.out.low.size))
  clear hb hown zgg S6
  go_wp2_with fail
  refine (eqBasinS_is _ _ (own_Basins (S7.out.row (rBasin gg Ln cgg (flatBasin L)) (by simp))) (own_Basins (S7.out.row (rBasin gw Ln cgw (flatBasin L)) (by simp))) (by unfold maxLen; omega)).mono ?_
  rintro e w9 ⟨rfl, hb⟩
  have S8 := Lib.hid (S7.out.quiet hb)
  clear hb S7
  go_wp2_with fail
  refine (toBasinS_is cb (IVb.out _ S8.out.low) HNb.out).mono ?_
  rintro e w10 ⟨t3, rfl, hown, -, hb⟩
  have zt3 := hown.lt t3 rfl
  have dt3_gg : t3 ≠ gg := by have h1 := (S8.out.lt (r := rBasin gg Ln cgg (flatBasin L)) (by simp) (g := gg) rfl).2; have h2 := zt3.1; omega
  have dt3_xf : t3 ≠ xf := by have h1 := (S8.out.lt (r := rFlow xf nf nf (flatFlow vf)) (by simp) (g := xf) rfl).2; have h2 := zt3.1; omega
  have dt3_xb : t3 ≠ xb := by have h1 := (S8.out.lt (r := rBasin xb nb nb (flatBasin vb)) (by simp) (g := xb) rfl).2; have h2 := zt3.1; omega
  have dt3_gw : t3 ≠ gw := by have h1 := (S8.out.lt (r := rBasin gw Ln cgw (flatBasin L)) (by simp) (g := gw) rfl).2; have h2 := zt3.1; omega
  have qt3 : w.heap.size ≤ t3 := Nat.le_trans S8.out.low.size zt3.1
  have S9 := Lib.hid ((S8.out.quiet hb).own (rBasin t3 nb nb (flatBasin vb)) (own_low hown S8.out.low.size))
  clear hb hown zt3 S8
  go_wp2_with fail
  refine (eqBasinS_is _ _ (own_Basins (S9.out.row (rBasin xb nb nb (flatBasin vb)) (by simp))) (own_Basins (S9.out.row (rBasin t3 nb nb (flatBasin vb)) (by simp))) (Nat.le_trans HNb.out (by unfold maxLen; omega))).mono ?_
  rintro e w11 ⟨rfl, hb⟩
  have S10 := Lib.hid (S9.out.quiet hb)
  clear hb S9
  have S11 := Lib.hid (S10.out.sub (rows' := [rBasin gg Ln cgg (flatBasin L), rFlow xf nf nf (flatFlow vf), rBasin xb nb nb (flatBasin vb), rBasin gw Ln cgw (flatBasin L)]) (by simp))
  clear S10
  go_wp2_with fail
  refine (toFlowS_is cf (IVf.out _ S11.out.low) HNf.out).mono ?_
  rintro e w12 ⟨t4, rfl, hown, -, hb⟩
  have zt4 := hown.lt t4 rfl
  have dt4_gg : t4 ≠ gg := by have h1 := (S11.out.lt (r := rBasin gg Ln cgg (flatBasin L)) (by simp) (g := gg) rfl).2; have h2 := zt4.1; omega
  have dt4_xf : t4 ≠ xf := by have h1 := (S11.out.lt (r := rFlow xf nf nf (flatFlow vf)) (by simp) (g := xf) rfl).2; have h2 := zt4.1; omega
  have dt4_xb : t4 ≠ xb := by have h1 := (S11.out.lt (r := rBasin xb nb nb (flatBasin vb)) (by simp) (g := xb) rfl).2; have h2 := zt4.1; omega
  have dt4_gw : t4 ≠ gw := by have h1 := (S11.out.lt (r := rBasin gw Ln cgw (flatBasin L)) (by simp) (g := gw) rfl).2; have h2 := zt4.1; omega
  have qt4 : w.heap.size ≤ t4 := Nat.le_trans S11.out.low.size zt4.1
  have S12 := Lib.hid ((S11.out.quiet hb).own (rFlow t4 nf nf (flatFlow vf)) (own_low hown S11.out.low.size))
  clear hb hown zt4 S11
  go_wp2_with fail
  refine (eqFlowS_is _ _ (own_Flows (S12.out.row (rFlow xf nf nf (flatFlow vf)) (by simp))) (own_Flows (S12.out.row (rFlow t4 nf nf (flatFlow vf)) (by simp))) (Nat.le_trans HNf.out (by unfold maxLen; omega))).mono ?_
  rintro e w13 ⟨rfl, hb⟩
  have S13 := Lib.hid (S12.out.quiet hb)
  clear hb S12
  have S14 := Lib.hid (S13.out.sub (rows' := [rBasin gg Ln cgg (flatBasin L), rFlow xf nf nf (flatFlow vf), rBasin xb nb nb (flatBasin vb), rBasin gw Ln cgw (flatBasin L)]) (by simp))
  clear S13
  have hNb := HNb.out
  have hNf := HNf.out
  go_wp2_with fail
  refine (markBasinS_any xb nb nb w.heap.size (1) _ _ (by omega) (by omega) (S14.out.row (rBasin xb nb nb (flatBasin vb)) (by simp))).mono ?_
  rintro e w14 ⟨rfl, hoM, hgr⟩
  have T8 := S14.out.sub (rows' := [rBasin xb nb nb (flatBasin vb), rBasin gg Ln cgg (flatBasin L), rFlow xf nf nf (flatFlow vf), rBasin gw Ln cgw (flatBasin L)]) (by simp)
  have S15 := Lib.hid (T8.turn (r' := rBasin xb nb nb (flatBasin (mkBasin (1) nb))) hgr (fun q e => by cases e; omega) (by first | (simp; omega) | simp) (by simp [Value.ownBlock]; omega) hoM)
  clear T8 hoM hgr S14
  have S16 := Lib.hid (S15.out.sub (rows' := [rBasin gg Ln cgg (flatBasin L), rFlow xf nf nf (flatFlow vf), rBasin gw Ln cgw (flatBasin L)]) (by simp))
  clear S15
  go_wp2_with fail
  refine (markFlowS_any xf nf nf w.heap.size (1 + 3 * (nb : Int)) _ _ (by omega) (by omega) (S16.out.row (rFlow xf nf nf (flatFlow vf)) (by simp))).mono ?_
  rintro e w15 ⟨rfl, hoM, hgr⟩
  have T8 := S16.out.sub (rows' := [rFlow xf nf nf (flatFlow vf), rBasin gg Ln cgg (flatBasin L), rBasin gw Ln cgw (flatBasin L)]) (by simp)
  have S17 := Lib.hid (T8.turn (r' := rFlow xf nf nf (flatFlow (mkFlow (1 + 3 * (nb : Int)) nf))) hgr (fun q e => by cases e; omega) (by first | (simp; omega) | simp) (by simp [Value.ownBlock]; omega) hoM)
  clear T8 hoM hgr S16
  have S18 := Lib.hid (S17.out.sub (rows' := [rBasin gg Ln cgg (flatBasin L), rBasin gw Ln cgw (flatBasin L)]) (by simp))
  clear S17
  have hkk : ¬ (1 + 3 * (nb : Int) + 3 * (nf : Int) < 0) := by omega
  go_wp2_with fail
  refine (eqBasinS_is _ _ (own_Basins (S18.out.row (rBasin gg Ln cgg (flatBasin L)) (by simp))) (own_Basins (S18.out.row (rBasin gw Ln cgw (flatBasin L)) (by simp))) (by unfold maxLen; omega)).mono ?_
  rintro e w16 ⟨rfl, hb⟩
  have S19 := Lib.hid (S18.out.quiet hb)
  clear hb S18
  go_wp2_with fail
  refine (markBasinS_any gg Ln cgg w.heap.size (1) _ _ (by omega) (by omega) (S19.out.row (rBasin gg Ln cgg (flatBasin L)) (by simp))).mono ?_
  rintro e w17 ⟨rfl, hoM, hgr⟩
  have T8 := S19.out.sub (rows' := [rBasin gg Ln cgg (flatBasin L), rBasin gw Ln cgw (flatBasin L)]) (by simp)
  have S20 := Lib.hid (T8.turn (r' := rBasin gg Ln cgg (flatBasin (mkBasin (1) Ln))) hgr (fun q e => by cases e; omega) (by first | (simp; omega) | simp) (by simp [Value.ownBlock]; omega) hoM)
  clear T8 hoM hgr S19
  go_wp2_with fail
  refine (heldBasinS_any _ Ln cgg _ 1 _ (by omega) (by omega) (Nat.le_refl _) (own_hasv (S20.out.row (rBasin gg Ln cgg (flatBasin (mkBasin (1) Ln))) (by simp)))).mono ?_
  rintro e w18 ⟨rfl, hb⟩
  have S21 := Lib.hid (S20.out.quiet hb)
  clear hb S20
  have hq1 : ¬ (1 + 3 * (Ln : Int) < 0) := by omega
  have hq2 : ((1 + 3 * (Ln : Int)) != (1 + 3 * (Ln : Int))) = false := by simp
  go_wp2_with fail
  refine (toBasinS_is cb (IVb.out _ S21.out.low) HNb.out).mono ?_
  rintro e w19 ⟨t5, rfl, hown, -, hb⟩
  have zt5 := hown.lt t5 rfl
  have dt5_gg : t5 ≠ gg := by have h1 := (S21.out.lt (r := rBasin gg Ln cgg (flatBasin (mkBasin (1) Ln))) (by simp) (g := gg) rfl).2; have h2 := zt5.1; omega
  have dt5_gw : t5 ≠ gw := by have h1 := (S21.out.lt (r := rBasin gw Ln cgw (flatBasin L)) (by simp) (g := gw) rfl).2; have h2 := zt5.1; omega
  have qt5 : w.heap.size ≤ t5 := Nat.le_trans S21.out.low.size zt5.1
  have S22 := Lib.hid ((S21.out.quiet hb).own (rBasin t5 nb nb (flatBasin vb)) (own_low hown S21.out.low.size))
  clear hb hown zt5 S21
  go_wp2_with fail
  refine (toFlowS_is cf (IVf.out _ S22.out.low) HNf.out).mono ?_
  rintro e w20 ⟨t6, rfl, hown, -, hb⟩
  have zt6 := hown.lt t6 rfl
  have dt6_t5 : t6 ≠ t5 := by have h1 := (S22.out.lt (r := rBasin t5 nb nb (flatBasin vb)) (by simp) (g := t5) rfl).2; have h2 := zt6.1; omega
  have dt6_gg : t6 ≠ gg := by have h1 := (S22.out.lt (r := rBasin gg Ln cgg (flatBasin (mkBasin (1) Ln))) (by simp) (g := gg) rfl).2; have h2 := zt6.1; omega
  have dt6_gw : t6 ≠ gw := by have h1 := (S22.out.lt (r := rBasin gw Ln cgw (flatBasin L)) (by simp) (g := gw) rfl).2; have h2 := zt6.1; omega
  have qt6 : w.heap.size ≤ t6 := Nat.le_trans S22.out.low.size zt6.1
  have S23 := Lib.hid ((S22.out.quiet hb).own (rFlow t6 nf nf (flatFlow vf)) (own_low hown S22.out.low.size))
  clear hb hown zt6 S22
  go_wp2_with fail
  refine (runI_any _ _ (own_Basins (S23.out.row (rBasin t5 nb nb (flatBasin vb)) (by simp))) HNb.out (own_Flows (S23.out.row (rFlow t6 nf nf (flatFlow vf)) (by simp))) HNf.out L z x HA.out Ln HLn.out).mono ?_
  rintro e w21 ⟨gh, cgh, rfl, hown, hb⟩
  have zgh := hown.lt gh rfl
  have dgh_t6 : gh ≠ t6 := by have h1 := (S23.out.lt (r := rFlow t6 nf nf (flatFlow vf)) (by simp) (g := t6) rfl).2; have h2 := zgh.1; omega
  have dgh_t5 : gh ≠ t5 := by have h1 := (S23.out.lt (r := rBasin t5 nb nb (flatBasin vb)) (by simp) (g := t5) rfl).2; have h2 := zgh.1; omega
  have dgh_gg : gh ≠ gg := by have h1 := (S23.out.lt (r := rBasin gg Ln cgg (flatBasin (mkBasin (1) Ln))) (by simp) (g := gg) rfl).2; have h2 := zgh.1; omega
  have dgh_gw : gh ≠ gw := by have h1 := (S23.out.lt (r := rBasin gw Ln cgw (flatBasin L)) (by simp) (g := gw) rfl).2; have h2 := zgh.1; omega
  have qgh : w.heap.size ≤ gh := Nat.le_trans S23.out.low.size zgh.1
  have S24 := Lib.hid ((S23.out.quiet hb).own (rBasin gh Ln cgh (flatBasin L)) (own_low hown S23.out.low.size))
  clear hb hown zgh S23
  have S25 := Lib.hid (S24.out.sub (rows' := [rBasin gh Ln cgh (flatBasin L), rBasin gg Ln cgg (flatBasin (mkBasin (1) Ln)), rBasin gw Ln cgw (flatBasin L)]) (by simp))
  clear S24
  go_wp2_with fail
  refine (eqBasinS_is _ _ (own_Basins (S25.out.row (rBasin gh Ln cgh (flatBasin L)) (by simp))) (own_Basins (S25.out.row (rBasin gw Ln cgw (flatBasin L)) (by simp))) (by unfold maxLen; omega)).mono ?_
  rintro e w22 ⟨rfl, hb⟩
  have S26 := Lib.hid (S25.out.quiet hb)
  clear hb S25
  go_wp2_with fail
  refine (heldBasinS_any _ Ln cgg _ 1 _ (by omega) (by omega) (Nat.le_refl _) (own_hasv (S26.out.row (rBasin gg Ln cgg (flatBasin (mkBasin (1) Ln))) (by simp)))).mono ?_
  rintro e w23 ⟨rfl, hb⟩
  have S27 := Lib.hid (S26.out.quiet hb)
  clear hb S26
  go_wp2_with fail
  go_ret
  exact ⟨rfl, S27.out.low⟩
end Go.Proofs.Ytliebicnejbheaa.fnExactRunFlows
