/- LetFlow answers as its model does, at every list and all indices; it writes into no argument and its answer owns its memory. -/
import Derived.Test.YtgnopkemcgbedaaPoF
import Derived.Test.YtgnopkemcgbedaaSt0
import Derived.OpenShut
import Derived.ShutString
import Derived.ChangeOld
import Derived.WalkLawsBesides
import Derived.Lib.SmallJoins
import Derived.Deep.RegionHeld3
namespace Go.Proofs.Ytgnopkemcgbedaa.fnExactLetFlow
open Go.ChangeShapes Go.WideShapes Go.ChangeAt Go.RowKit
open Go.ChangeMaps (open_string shut_string)
set_option linter.unusedVariables false
set_option linter.unusedSimpArgs false

abbrev rPool (g n c : Nat) (xs : List Value) : RowOf := ⟨35, 3, .slice (some ⟨g, 0, none⟩) n c, n, xs⟩
abbrev ri (g n c : Nat) (xs : List Value) : RowOf := ⟨3, 1, .slice (some ⟨g, 0, none⟩) n c, n, xs⟩

set_option maxRecDepth 100000 in
set_option maxHeartbeats 4000000 in
theorem walk (Ab : Option Addr) (nb cb : Nat) (vb : List TPool) (fi : Int) (ti : Int) (w : World) (hnb : vb.length = nb) (hmb : nb ≤ maxLen) (hhb : Has w w.heap.size Ab (flatPool vb)) (kfi : (Lit.int .i64 fi).wf = true) (kti : (Lit.int .i64 ti).wf = true)  :
    Calls Try.prog 9 #[.slice Ab nb cb, .int .i64 fi, .int .i64 ti] w fun e w' => e = .returned (.bool true) ∧ Below w.heap.size w w' := by
  have ivb : IsPools w w.heap.size Ab nb vb := ⟨hnb, Nat.le_refl _, hhb⟩
  have IVb := Lib.hid (fun W (hb : Below w.heap.size w W) => ivb.below hb (Nat.le_refl _))
  have HMb := Lib.hid hmb
  obtain ⟨L, z, x, hA⟩ := letA_ex vb fi ti
  have HA := Lib.hid hA
  have HLB : Hid (L.length ≤ 5) := Lib.hid hA.len
  have hzz : (z != z) = false := by simp
  have hxx : (x != x) = false := by simp
  clear hA
  clear hnb hhb ivb
  go_enter Try.func9, Try.ntmps9
  have S0 := Lib.hid (St.start w)
  obtain ⟨leftb, l0b, l1b, lfb, szb⟩ := szPoolS_is Ab nb cb 1048576 HMb.out (by omega) (by omega)
  have SZb := Lib.hid szb
  clear szb
  go_wp2_with fail
  refine (SZb.out _).mono ?_
  rintro e w1 ⟨rfl, rfl⟩
  clear SZb
  by_cases negb : leftb < 0
  · go_wp2_with fail
    go_ret
    exact ⟨rfl, S0.out.low⟩
  have HNb : Hid (nb ≤ 1048576) := Lib.hid (by have := lfb (by omega); omega)
  obtain ⟨Ln, hLn⟩ : ∃ k, L.length = k := ⟨_, rfl⟩
  have HLn := Lib.hid hLn
  have hLb : Ln ≤ 5 := by rw [← hLn]; exact HLB.out
  clear hLn
  go_wp2_with fail
  refine (toPoolS_is cb (IVb.out _ S0.out.low) HNb.out).mono ?_
  rintro e w2 ⟨t1, rfl, hown, -, hb⟩
  have zt1 := hown.lt t1 rfl
  have qt1 : w.heap.size ≤ t1 := Nat.le_trans S0.out.low.size zt1.1
  have S1 := Lib.hid ((S0.out.quiet hb).own (rPool t1 nb nb (flatPool vb)) (own_low hown S0.out.low.size))
  clear hb hown zt1 S0
  go_wp2_with fail
  refine (letS_any _ (own_Pools (S1.out.row (rPool t1 nb nb (flatPool vb)) (by simp))) HNb.out fi ti L z x HA.out Ln HLn.out).mono ?_
  rintro e w3 ⟨gw, cgw, rfl, hown, hb⟩
  have zgw := hown.lt gw rfl
  have dgw_t1 : gw ≠ t1 := by have h1 := (S1.out.lt (r := rPool t1 nb nb (flatPool vb)) (by simp) (g := t1) rfl).2; have h2 := zgw.1; omega
  have qgw : w.heap.size ≤ gw := Nat.le_trans S1.out.low.size zgw.1
  have S2 := Lib.hid ((S1.out.quiet hb).own (rPool gw Ln cgw (flatPool L)) (own_low hown S1.out.low.size))
  clear hb hown zgw S1
  have S3 := Lib.hid (S2.out.sub (rows' := [rPool gw Ln cgw (flatPool L)]) (by simp))
  clear S2
  go_wp2_with fail
  refine (toPoolS_is cb (IVb.out _ S3.out.low) HNb.out).mono ?_
  rintro e w4 ⟨xb, rfl, hown, -, hb⟩
  have zxb := hown.lt xb rfl
  have dxb_gw : xb ≠ gw := by have h1 := (S3.out.lt (r := rPool gw Ln cgw (flatPool L)) (by simp) (g := gw) rfl).2; have h2 := zxb.1; omega
  have qxb : w.heap.size ≤ xb := Nat.le_trans S3.out.low.size zxb.1
  have S4 := Lib.hid ((S3.out.quiet hb).own (rPool xb nb nb (flatPool vb)) (own_low hown S3.out.low.size))
  clear hb hown zxb S3
  go_wp2_with fail
  refine (letI_any _ (own_Pools (S4.out.row (rPool xb nb nb (flatPool vb)) (by simp))) HNb.out fi ti L z x HA.out Ln HLn.out).mono ?_
  rintro e w5 ⟨gg, cgg, rfl, hown, hb⟩
  have zgg := hown.lt gg rfl
  have dgg_xb : gg ≠ xb := by have h1 := (S4.out.lt (r := rPool xb nb nb (flatPool vb)) (by simp) (g := xb) rfl).2; have h2 := zgg.1; omega
  have dgg_gw : gg ≠ gw := by have h1 := (S4.out.lt (r := rPool gw Ln cgw (flatPool L)) (by simp) (g := gw) rfl).2; have h2 := zgg.1; omega
  have qgg : w.heap.size ≤ gg := Nat.le_trans S4.out.low.size zgg.1
  have S5 := Lib.hid ((S4.out.quiet hb).own (rPool gg Ln cgg (flatPool L)) (own_low hown S4.out.low.size))
  clear hb hown zgg S4
  go_wp2_with fail
  refine (eqPoolS_is _ _ (own_Pools (S5.out.row (rPool gg Ln cgg (flatPool L)) (by simp))) (own_Pools (S5.out.row (rPool gw Ln cgw (flatPool L)) (by simp))) (by unfold maxLen; omega)).mono ?_
  rintro e w6 ⟨rfl, hb⟩
  have S6 := Lib.hid (S5.out.quiet hb)
  clear hb S5
  go_wp2_with fail
  refine (toPoolS_is cb (IVb.out _ S6.out.low) HNb.out).mono ?_
  rintro e w7 ⟨t2, rfl, hown, -, hb⟩
  have zt2 := hown.lt t2 rfl
  have dt2_gg : t2 ≠ gg := by have h1 := (S6.out.lt (r := rPool gg Ln cgg (flatPool L)) (by simp) (g := gg) rfl).2; have h2 := zt2.1; omega
  have dt2_xb : t2 ≠ xb := by have h1 := (S6.out.lt (r := rPool xb nb nb (flatPool vb)) (by simp) (g := xb) rfl).2; have h2 := zt2.1; omega
  have dt2_gw : t2 ≠ gw := by have h1 := (S6.out.lt (r := rPool gw Ln cgw (flatPool L)) (by simp) (g := gw) rfl).2; have h2 := zt2.1; omega
  have qt2 : w.heap.size ≤ t2 := Nat.le_trans S6.out.low.size zt2.1
  have S7 := Lib.hid ((S6.out.quiet hb).own (rPool t2 nb nb (flatPool vb)) (own_low hown S6.out.low.size))
  clear hb hown zt2 S6
  go_wp2_with fail
  refine (eqPoolS_is _ _ (own_Pools (S7.out.row (rPool xb nb nb (flatPool vb)) (by simp))) (own_Pools (S7.out.row (rPool t2 nb nb (flatPool vb)) (by simp))) (Nat.le_trans HNb.out (by unfold maxLen; omega))).mono ?_
  rintro e w8 ⟨rfl, hb⟩
  have S8 := Lib.hid (S7.out.quiet hb)
  clear hb S7
  have S9 := Lib.hid (S8.out.sub (rows' := [rPool gg Ln cgg (flatPool L), rPool xb nb nb (flatPool vb), rPool gw Ln cgw (flatPool L)]) (by simp))
  clear S8
  have hNb := HNb.out
  go_wp2_with fail
  refine (markPoolS_any xb nb nb w.heap.size (1) _ _ (by omega) (by omega) (S9.out.row (rPool xb nb nb (flatPool vb)) (by simp))).mono ?_
  rintro e w9 ⟨rfl, hoM, hgr⟩
  have T8 := S9.out.sub (rows' := [rPool xb nb nb (flatPool vb), rPool gg Ln cgg (flatPool L), rPool gw Ln cgw (flatPool L)]) (by simp)
  have S10 := Lib.hid (T8.turn (r' := rPool xb nb nb (flatPool (mkPool (1) nb))) hgr (fun q e => by cases e; omega) (by first | (simp; omega) | simp) (by simp [Value.ownBlock]; omega) hoM)
  clear T8 hoM hgr S9
  have S11 := Lib.hid (S10.out.sub (rows' := [rPool gg Ln cgg (flatPool L), rPool gw Ln cgw (flatPool L)]) (by simp))
  clear S10
  have hkk : ¬ (1 + 3 * (nb : Int) < 0) := by omega
  go_wp2_with fail
  refine (eqPoolS_is _ _ (own_Pools (S11.out.row (rPool gg Ln cgg (flatPool L)) (by simp))) (own_Pools (S11.out.row (rPool gw Ln cgw (flatPool L)) (by simp))) (by unfold maxLen; omega)).mono ?_
  rintro e w10 ⟨rfl, hb⟩
  have S12 := Lib.hid (S11.out.quiet hb)
  clear hb S11
  go_wp2_with fail
  refine (markPoolS_any gg Ln cgg w.heap.size (1) _ _ (by omega) (by omega) (S12.out.row (rPool gg Ln cgg (flatPool L)) (by simp))).mono ?_
  rintro e w11 ⟨rfl, hoM, hgr⟩
  have T8 := S12.out.sub (rows' := [rPool gg Ln cgg (flatPool L), rPool gw Ln cgw (flatPool L)]) (by simp)
  have S13 := Lib.hid (T8.turn (r' := rPool gg Ln cgg (flatPool (mkPool (1) Ln))) hgr (fun q e => by cases e; omega) (by first | (simp; omega) | simp) (by simp [Value.ownBlock]; omega) hoM)
  clear T8 hoM hgr S12
  go_wp2_with fail
  refine (heldPoolS_any _ Ln cgg _ 1 _ (by omega) (by omega) (Nat.le_refl _) (own_hasv (S13.out.row (rPool gg Ln cgg (flatPool (mkPool (1) Ln))) (by simp)))).mono ?_
  rintro e w12 ⟨rfl, hb⟩
  have S14 := Lib.hid (S13.out.quiet hb)
  clear hb S13
  have hq1 : ¬ (1 + 3 * (Ln : Int) < 0) := by omega
  have hq2 : ((1 + 3 * (Ln : Int)) != (1 + 3 * (Ln : Int))) = false := by simp
  go_wp2_with fail
  refine (toPoolS_is cb (IVb.out _ S14.out.low) HNb.out).mono ?_
  rintro e w13 ⟨t3, rfl, hown, -, hb⟩
  have zt3 := hown.lt t3 rfl
  have dt3_gg : t3 ≠ gg := by have h1 := (S14.out.lt (r := rPool gg Ln cgg (flatPool (mkPool (1) Ln))) (by simp) (g := gg) rfl).2; have h2 := zt3.1; omega
  have dt3_gw : t3 ≠ gw := by have h1 := (S14.out.lt (r := rPool gw Ln cgw (flatPool L)) (by simp) (g := gw) rfl).2; have h2 := zt3.1; omega
  have qt3 : w.heap.size ≤ t3 := Nat.le_trans S14.out.low.size zt3.1
  have S15 := Lib.hid ((S14.out.quiet hb).own (rPool t3 nb nb (flatPool vb)) (own_low hown S14.out.low.size))
  clear hb hown zt3 S14
  go_wp2_with fail
  refine (letI_any _ (own_Pools (S15.out.row (rPool t3 nb nb (flatPool vb)) (by simp))) HNb.out fi ti L z x HA.out Ln HLn.out).mono ?_
  rintro e w14 ⟨gh, cgh, rfl, hown, hb⟩
  have zgh := hown.lt gh rfl
  have dgh_t3 : gh ≠ t3 := by have h1 := (S15.out.lt (r := rPool t3 nb nb (flatPool vb)) (by simp) (g := t3) rfl).2; have h2 := zgh.1; omega
  have dgh_gg : gh ≠ gg := by have h1 := (S15.out.lt (r := rPool gg Ln cgg (flatPool (mkPool (1) Ln))) (by simp) (g := gg) rfl).2; have h2 := zgh.1; omega
  have dgh_gw : gh ≠ gw := by have h1 := (S15.out.lt (r := rPool gw Ln cgw (flatPool L)) (by simp) (g := gw) rfl).2; have h2 := zgh.1; omega
  have qgh : w.heap.size ≤ gh := Nat.le_trans S15.out.low.size zgh.1
  have S16 := Lib.hid ((S15.out.quiet hb).own (rPool gh Ln cgh (flatPool L)) (own_low hown S15.out.low.size))
  clear hb hown zgh S15
  have S17 := Lib.hid (S16.out.sub (rows' := [rPool gh Ln cgh (flatPool L), rPool gg Ln cgg (flatPool (mkPool (1) Ln)), rPool gw Ln cgw (flatPool L)]) (by simp))
  clear S16
  go_wp2_with fail
  refine (eqPoolS_is _ _ (own_Pools (S17.out.row (rPool gh Ln cgh (flatPool L)) (by simp))) (own_Pools (S17.out.row (rPool gw Ln cgw (flatPool L)) (by simp))) (by unfold maxLen; omega)).mono ?_
  rintro e w15 ⟨rfl, hb⟩
  have S18 := Lib.hid (S17.out.quiet hb)
  clear hb S17
  go_wp2_with fail
  refine (heldPoolS_any _ Ln cgg _ 1 _ (by omega) (by omega) (Nat.le_refl _) (own_hasv (S18.out.row (rPool gg Ln cgg (flatPool (mkPool (1) Ln))) (by simp)))).mono ?_
  rintro e w16 ⟨rfl, hb⟩
  have S19 := Lib.hid (S18.out.quiet hb)
  clear hb S18
  go_wp2_with fail
  go_ret
  exact ⟨rfl, S19.out.low⟩
theorem own : ownKnob Try.prog.godebug = none := by kernel_rfl
theorem laidOut : laidOutB Try.prog = true := by kernel_rfl

set_option maxRecDepth 100000 in
theorem lifted (os : Os) (started : os.Started) (H : Type) (enc : TypeId × Value → H) :
    ReturnsInHanded {} Try.checked os 9 .any (Rows.fnExactLetFlowSpec.pre6 enc Try.prog Try.f9 Rows.fnExactLetFlowRow.domain false) (Rows.fnExactLetFlowSpec.post enc Try.prog Try.f9 false true false false) := by
  refine returnsInHanded_of_change (C := Try.checked) own started (by kernel_rfl) Try.func9
    (ChangeSpec.witness6 (enc := enc) (C := Try.checked) false ⟨#[], #[.slice none 0 0, .int .i64 0, .int .i64 0], []⟩ 8 (by kernel_rfl) (by kernel_rfl) (by kernel_rfl) (by kernel_rfl)) ?_
  intro W base args ds gs before hval0 hW hcnd _
  have hval : ∀ (j : Nat) t v, Try.f9.params[j]? = some t → args[j]? = some v → Value.okWide Try.prog W .any base t v := hval0
  have hW' := hW
  obtain ⟨p, q, hA0, hV, rfl, hfz, hnd⟩ := hW
  have hA : DataW.TrodAll enc Try.prog W 0 (fun _ => true) true Try.f9.params.toList args.toList ds p := hA0
  rw [Try.params9] at hA hval
  obtain ⟨v0, vs0, d0, ds0, p0, q0, hargs, rfl, rfl, h0, r0⟩ := trodAll_cons hA
  obtain ⟨v1, vs1, d1, ds1, p1, q1, rfl, rfl, rfl, h1, r1⟩ := trodAll_cons r0
  obtain ⟨v2, vs2, d2, ds2, p2, q2, rfl, rfl, rfl, h2, r2⟩ := trodAll_cons r1
  obtain ⟨rfl, rfl, rfl⟩ := trodAll_nil r2
  obtain rfl : args = #[v0, v1, v2] := by cases args; simp_all
  obtain ⟨rfl, rfl⟩ := trodVars_none hV
  have k0 := h0
  have lt0 : ∀ x ∈ p0, x.block < W.heap.size := by obtain ⟨m, hm⟩ := k0; exact DataW.trod_lt m _ _ _ hm
  obtain ⟨a0, len0, cap0, rfl⟩ := okWide_slice Try.underlying54 (hval 0 54 v0 rfl rfl)
  obtain ⟨z0, wl0, wm0, wh0⟩ : ∃ vs : List TPool, vs.length = len0 ∧ len0 ≤ maxLen ∧ Has W W.heap.size a0 (flatPool vs) := by
    obtain ⟨fuel, hf⟩ := h0
    obtain ⟨A, l, c, vs, hcs, h1, h2, h4⟩ := open_Pools Try.underlying54 Try.underlying51 (by kernel_rfl) (by kernel_rfl) Try.underlying3 Try.underlying3 Try.underlying3 hf
    simp [Value.cells] at hcs
    obtain ⟨rfl, rfl, rfl⟩ := hcs
    exact ⟨vs, h1, h2, h4⟩
  obtain ⟨a1, rfl, rfl, rfl, w1⟩ := open_int Try.underlying3 (hval 1 3 v1 rfl rfl) h1
  obtain ⟨a2, rfl, rfl, rfl, w2⟩ := open_int Try.underlying3 (hval 2 3 v2 rfl rfl) h2
  clear hA0 hval0
  refine (walk a0 len0 cap0 z0 a1 a2 W wl0 wm0 wh0 w1 w2).mono fun e W' ⟨he, bel⟩ => ?_
  subst he
  exact ⟨_, rfl, _, _, _, [], _, [], hW', trodAll_mk1 (shut_bool Try.underlying4 _), (trodAll_cons_mk (Below.trod laidOut (by kernel_rfl) (of_decide_eq_true (by kernel_rfl)) k0 bel lt0) (trodAll_cons_mk (shut_int Try.underlying3 w1) (trodAll_cons_mk (shut_int Try.underlying3 w2) trodAll_mk0))), rfl, bel.frame _, fun h => by cases h⟩

theorem over : Rows.fnExactLetFlowRow.holds Try.pinned (OpenSpec.ofChange Rows.fnExactLetFlowSpec) :=
  OpenClaim.holds_of_wide 9 Try.f9 rfl rfl rfl rfl rfl rfl rfl ⟨rfl, rfl, rfl, rfl, rfl⟩ rfl rfl rfl rfl rfl (by kernel_rfl) Try.func9 (by kernel_rfl)
    (of_decide_eq_true (by kernel_rfl)) (by unfold Func.isWrapper; first | (rw [if_pos (by decide +kernel)]; kernel_rfl) | (rw [if_neg (by decide +kernel)]; exact ⟨rfl, rfl⟩))
    (fun os started H enc _ => lifted os started H enc)

/-- The statement. -/
theorem proved : Rows.FnExactLetFlowSaid := over
end Go.Proofs.Ytgnopkemcgbedaa.fnExactLetFlow
