/- OrderVessels answers as its model does, at every list of vessels; it writes into no argument and its answer owns its memory. -/
import Derived.Test.YtmnagjjpncancabSrtImp
import Derived.Test.YtmnagjjpncancabSrtSpec
import Derived.Test.YtmnagjjpncancabVesMark
import Derived.Test.YtmnagjjpncancabSt0
import Derived.OpenShut
import Derived.ShutString
import Derived.ChangeOld
import Derived.WalkLawsBesides
import Derived.Lib.SmallJoins
namespace Go.Proofs.Ytmnagjjpncancab.fnExactOrderVessels
open Go.ChangeShapes Go.WideShapes Go.ChangeAt Go.RowKit
open Go.ChangeMaps (open_string shut_string)
set_option linter.unusedVariables false

/-- A row of integers. -/
abbrev ri (g n c : Nat) (xs : List Value) : RowOf := ⟨3, 1, .slice (some ⟨g, 0, none⟩) n c, n, xs⟩
/-- A row of vessels. -/
abbrev rv (g n c : Nat) (xs : List Value) : RowOf := ⟨76, 6, .slice (some ⟨g, 0, none⟩) n c, n, xs⟩

set_option maxRecDepth 100000 in
set_option maxHeartbeats 4000000 in
theorem walk (A : Option Addr) (n c : Nat) (vs : List Ves) (w : World) (hn : vs.length = n) (hm : n ≤ maxLen) (hs : ∀ v ∈ vs, v.name.size ≤ maxLen) (h : Has w w.heap.size A (flatV vs)) :
    Calls Try.prog 3 #[.slice A n c] w fun e w' => e = .returned (.bool true) ∧ Below w.heap.size w w' := by
  have hv : IsVs w w.heap.size A n vs := ⟨hn, Nat.le_refl _, h, hs⟩
  obtain ⟨left, l0, l1, lf, hz⟩ := szVS_vs (c := c) w hv hm 1048576 (by omega) (by omega)
  have SZ := Lib.hid hz
  have IV := Lib.hid (fun W (hb : Below w.heap.size w W) => hv.below hb (Nat.le_refl _))
  have HM := Lib.hid hm
  have HF := Lib.hid (fun h : 0 ≤ left => (by have := lf h; omega : n ≤ 1048576))
  obtain ⟨L, y, hL8, hord⟩ := ord_two vs
  have HY := Lib.hid hord
  have hney : (y != y) = false := by simp
  clear hn hm hs h hv hz lf hord
  go_enter Try.func3, Try.ntmps3
  go_wp2_with fail
  refine (SZ.out _ (Below.refl _ _)).mono ?_
  rintro e w1 ⟨rfl, hb⟩
  have S1 := Lib.hid ((St.start w).quiet hb)
  clear hb SZ
  by_cases hneg : left < 0
  · go_wp2_with fail
    go_ret
    exact ⟨rfl, S1.out.low⟩
  · have hn1 := Lib.hid (HF.out (by omega))
    go_wp2_with fail
    refine (toVS_vs c (IV.out _ S1.out.low) hn1.out).mono ?_
    rintro e w2 ⟨g, rfl, -, i2, hb⟩
    have S2 := Lib.hid (S1.out.quiet hb)
    have I2 := Lib.hid i2
    clear hb i2 S1
    go_wp2_with fail
    refine (specOrd_any n I2.out HM.out L y HY.out).mono ?_
    rintro e w3 ⟨gw, cw, rfl, hgw, hown, hb⟩
    have S3 := Lib.hid ((S2.out.quiet hb).own (ri gw L.length cw (L.map (.int .i64))) (own_low hown S2.out.low.size))
    have z3 := (hown.lt gw rfl).2
    have z3' : w.heap.size ≤ gw := Nat.le_trans S2.out.low.size hgw
    clear hb S2 hown hgw
    go_wp2_with fail
    refine (toVS_vs c (IV.out _ S3.out.low) hn1.out).mono ?_
    rintro e w4 ⟨x0, rfl, ho, i4, hb⟩
    have z4 := ho.lt x0 rfl
    obtain ⟨z4a, z4b⟩ := z4
    have S4 := Lib.hid ((S3.out.quiet hb).own (rv x0 n n (flatV vs)) (own_low ho S3.out.low.size))
    have I4 := Lib.hid i4
    have zz4 := S3.out.low.size
    clear hb i4 ho S3
    go_wp2_with fail
    refine (implOrd_any n I4.out HM.out (Nat.le_refl _) L y HY.out).mono ?_
    rintro e w5 ⟨gg, cg, rfl, hgg, hown, hb⟩
    have S5 := Lib.hid ((S4.out.quiet hb).own (ri gg L.length cg (L.map (.int .i64))) (own_low hown S4.out.low.size))
    have I5 := Lib.hid (I4.out.below hb (Nat.le_refl _))
    have zz5 := S4.out.low.size
    clear hb S4 hown I4
    go_wp2_with fail
    refine (eqI_same _ _ L.length _ _ _ _ L _ rfl (by unfold maxLen; omega) (own_hasv (S5.out.row (ri gg L.length cg (L.map (.int .i64))) (by simp))) (own_hasv (S5.out.row (ri gw L.length cw (L.map (.int .i64))) (by simp)))).mono ?_
    rintro e w6 ⟨rfl, hD⟩
    have S6 := Lib.hid (S5.out.drawn hD)
    have I6 := Lib.hid (I5.out.below (hD.below _) (Nat.le_refl _))
    clear hD S5 I5
    go_wp2_with fail
    refine (toVS_vs c (IV.out _ S6.out.low) hn1.out).mono ?_
    rintro e w7 ⟨g3, rfl, -, i7, hb⟩
    have S7 := Lib.hid (S6.out.quiet hb)
    have I7 := Lib.hid i7
    have I8 := Lib.hid (I6.out.all.below hb (Nat.le_refl _))
    clear hb i7 S6 I6
    go_wp2_with fail
    refine (eqVS_vs n n I8.out I7.out HM.out).mono ?_
    rintro e w8 ⟨rfl, hb⟩
    have S8 := Lib.hid (S7.out.quiet hb)
    clear hb S7 I7 I8
    go_wp2_with fail
    -- the argument is written over
    refine (markVS_any x0 n n w.heap.size 1 (flatV vs) _ (by omega) (by have := hn1.out; omega) (S8.out.row (rv x0 n n (flatV vs)) (by simp))).mono ?_
    rintro e w9 ⟨rfl, hoM, hg1⟩
    have T8 := S8.out.sub (rows' := [rv x0 n n (flatV vs), ri gg L.length cg (L.map (.int .i64)), ri gw L.length cw (L.map (.int .i64))]) (by simp)
    have T9 := T8.turn (r' := rv x0 n n (flatV (mkV 1 n))) hg1 (fun q e => by cases e; omega) (by simp) (by simp [Value.ownBlock]; omega) hoM
    have S9 := Lib.hid (T9.sub (rows' := [ri gg L.length cg (L.map (.int .i64)), ri gw L.length cw (L.map (.int .i64))]) (by simp))
    clear hg1 hoM T8 T9 S8
    have hk1 : ¬ (1 + 6 * (n : Int) < 0) := by omega
    have hn1' := hn1.out
    go_wp2_with fail
    refine (eqI_same _ _ L.length _ _ _ _ L _ rfl (by unfold maxLen; omega) (own_hasv (S9.out.row (ri gg L.length cg (L.map (.int .i64))) (by simp))) (own_hasv (S9.out.row (ri gw L.length cw (L.map (.int .i64))) (by simp)))).mono ?_
    rintro e w10 ⟨rfl, hD⟩
    have S10 := Lib.hid (S9.out.drawn hD)
    clear hD S9
    go_wp2_with fail
    -- the answer is marked, the marks are found
    refine (markI_row _ L.length w.heap.size 1 _ _ (by omega) (by omega) (S10.out.row (ri gg L.length cg (L.map (.int .i64))) (by simp))).mono ?_
    rintro e w11 ⟨rfl, hown, hg1⟩
    replace hg1 : w10.grownBy w11 (some gg) := hg1
    have S11 := Lib.hid (S10.out.turn (r' := ri gg L.length cg (nums 1 L.length)) hg1 (fun q e => by cases e; omega) (by simp) (by simp [Value.ownBlock]; omega) hown)
    clear hown hg1 S10
    have hL7 : (L.length : Int) ≤ 8 := by omega
    generalize hLn : L.length = Ln at *
    go_wp2_with fail
    refine (heldI_any _ Ln cg _ 1 _ (by omega) (by omega) (own_hasv (S11.out.row (ri gg Ln cg (nums 1 Ln)) (by simp)))).mono ?_
    rintro e w12 ⟨rfl, rfl⟩
    have hq1 : ¬ (1 + (Ln : Int) < 0) := by omega
    have hq2 : ((1 + (Ln : Int)) != (1 + (Ln : Int))) = false := by simp
    go_wp2_with fail
    -- asked again
    refine (toVS_vs c (IV.out _ S11.out.low) hn1.out).mono ?_
    rintro e w13 ⟨g4, rfl, -, i13, hb⟩
    have S13 := Lib.hid (S11.out.quiet hb)
    have I13 := Lib.hid i13
    clear hb i13 S11
    go_wp2_with fail
    refine (implOrd_any n I13.out HM.out (Nat.le_refl _) L y HY.out).mono ?_
    rintro e w14 ⟨gh, ch, rfl, -, hown, hb⟩
    rw [hLn] at hown ⊢
    have S14 := Lib.hid ((S13.out.quiet hb).own (ri gh Ln ch (L.map (.int .i64))) (own_low hown S13.out.low.size))
    clear hb S13 hown I13
    go_wp2_with fail
    refine (eqI_same _ _ Ln _ _ _ _ L _ hLn (by unfold maxLen; omega) (own_hasv (S14.out.row (ri gh Ln ch (L.map (.int .i64))) (by simp))) (own_hasv (S14.out.row (ri gw Ln cw (L.map (.int .i64))) (by simp)))).mono ?_
    rintro e w15 ⟨rfl, hD⟩
    have S15 := Lib.hid (S14.out.drawn hD)
    clear hD S14
    go_wp2_with fail
    refine (heldI_any _ Ln cg _ 1 _ (by omega) (by omega) (own_hasv (S15.out.row (ri gg Ln cg (nums 1 Ln)) (by simp)))).mono ?_
    rintro e w16 ⟨rfl, rfl⟩
    go_wp2_with fail
    go_ret
    exact ⟨rfl, S15.out.low⟩
theorem own : ownKnob Try.prog.godebug = none := by kernel_rfl
theorem laidOut : laidOutB Try.prog = true := by kernel_rfl

set_option maxRecDepth 100000 in
theorem lifted (os : Os) (started : os.Started) (H : Type) (enc : TypeId × Value → H) :
    ReturnsInHanded {} Try.checked os 3 .any (Rows.fnExactOrderVesselsSpec.pre6 enc Try.prog Try.f3 Rows.fnExactOrderVesselsRow.domain false) (Rows.fnExactOrderVesselsSpec.post enc Try.prog Try.f3 false true false false) := by
  refine returnsInHanded_of_change (C := Try.checked) own started (by kernel_rfl) Try.func3
    (ChangeSpec.witness6 (enc := enc) (C := Try.checked) false ⟨#[], #[.slice none 0 0], []⟩ 8 (by kernel_rfl) (by kernel_rfl) (by kernel_rfl) (by kernel_rfl)) ?_
  intro W base args ds gs before hval0 hW hcnd _
  have hval : ∀ (j : Nat) t v, Try.f3.params[j]? = some t → args[j]? = some v → Value.okWide Try.prog W .any base t v := hval0
  have hW' := hW
  obtain ⟨p, q, hA0, hV, rfl, hfz, hnd⟩ := hW
  have hA : DataW.TrodAll enc Try.prog W 0 (fun _ => true) true Try.f3.params.toList args.toList ds p := hA0
  rw [Try.params3] at hA hval
  obtain ⟨v0, vs0, d0, ds0, p0, q0, hargs, rfl, rfl, h0, r0⟩ := trodAll_cons hA
  obtain ⟨rfl, rfl, rfl⟩ := trodAll_nil r0
  obtain rfl : args = #[v0] := by cases args; simp_all
  obtain ⟨rfl, rfl⟩ := trodVars_none hV
  have k0 := h0
  have lt0 : ∀ x ∈ p0, x.block < W.heap.size := by obtain ⟨m, hm⟩ := k0; exact DataW.trod_lt m _ _ _ hm
  obtain ⟨a0, len0, cap0, rfl⟩ := okWide_slice Try.underlying22 (hval 0 22 v0 rfl rfl)
  obtain ⟨z0, wl0, wm0, wz0, wh0⟩ : ∃ vs : List Ves, vs.length = len0 ∧ len0 ≤ maxLen ∧ (∀ v ∈ vs, v.name.size ≤ maxLen) ∧ Has W W.heap.size a0 (flatV vs) := by
    obtain ⟨fuel, hf⟩ := h0
    obtain ⟨A, l, c, vs, hcs, h1, h2, h3, h4⟩ := open_vess Try.underlying22 Try.underlying79 (by kernel_rfl) (by kernel_rfl) Try.underlying3 Try.underlying9 Try.underlying3 Try.underlying3 Try.underlying3 Try.underlying3 hf
    simp [Value.cells] at hcs
    obtain ⟨rfl, rfl, rfl⟩ := hcs
    exact ⟨vs, h1, h2, h3, h4⟩
  clear hA0 hval0
  refine (walk a0 len0 cap0 z0 W wl0 wm0 wz0 wh0).mono fun e W' ⟨he, bel⟩ => ?_
  subst he
  exact ⟨_, rfl, _, _, _, [], _, [], hW', trodAll_mk1 (shut_bool Try.underlying4 _), (trodAll_cons_mk (Below.trod laidOut (by kernel_rfl) (of_decide_eq_true (by kernel_rfl)) k0 bel lt0) trodAll_mk0), rfl, bel.frame _, fun h => by cases h⟩

theorem over : Rows.fnExactOrderVesselsRow.holds Try.pinned (OpenSpec.ofChange Rows.fnExactOrderVesselsSpec) :=
  OpenClaim.holds_of_wide 3 Try.f3 rfl rfl rfl rfl rfl rfl rfl ⟨rfl, rfl, rfl, rfl, rfl⟩ rfl rfl rfl rfl rfl (by kernel_rfl) Try.func3 (by kernel_rfl)
    (of_decide_eq_true (by kernel_rfl)) (by unfold Func.isWrapper; first | (rw [if_pos (by decide +kernel)]; kernel_rfl) | (rw [if_neg (by decide +kernel)]; exact ⟨rfl, rfl⟩))
    (fun os started H enc _ => lifted os started H enc)

/-- The statement. -/
theorem proved : Rows.FnExactOrderVesselsSaid := over
end Go.Proofs.Ytmnagjjpncancab.fnExactOrderVessels
