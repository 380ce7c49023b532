/- LocksBetween answers as its model does, at every waterway and all places; it writes into no argument and its answer owns its memory. -/
import Derived.Test.YtomehioembakgaaWayLks
import Derived.Test.YtomehioembakgaaWayMark
import Derived.OpenShut
import Derived.ShutString
import Derived.ChangeOld
import Derived.WalkLawsBesides
import Derived.Lib.SmallJoins
import Derived.Deep.RegionHeld3
namespace Go.Proofs.Ytomehioembakgaa.fnExactLocksBetween
open Go.ChangeShapes Go.WideShapes Go.ChangeAt Go.RowKit
open Go.ChangeMaps (open_string shut_string)
set_option linter.unusedVariables false

/-- A row of integers. -/
abbrev ri (g n c : Nat) (xs : List Value) : RowOf := ⟨3, 1, .slice (some ⟨g, 0, none⟩) n c, n, xs⟩
/-- A row of reaches. -/
abbrev rr (g n c : Nat) (xs : List Value) : RowOf := ⟨71, 3, .slice (some ⟨g, 0, none⟩) n c, n, xs⟩

set_option maxRecDepth 100000 in
set_option maxHeartbeats 4000000 in
theorem walk (a : Option Addr) (n c : Nat) (rs : List (Int × Int × Int)) (b : Option Addr) (n2 c2 : Nat) (zs : List Int) (p : Int) (q : Int) (w : World) (hn : rs.length = n) (hm : n ≤ maxLen) (hr : Has w w.heap.size a (flat rs)) (hz : IsInts .i64 w b n2 zs) (kp : (Lit.int .i64 p).wf = true) (kq : (Lit.int .i64 q).wf = true) :
    Calls Try.prog 8 #[.agg #[.slice a n c, .slice b n2 c2], .int .i64 p, .int .i64 q] w fun e w' => e = .returned (.bool true) ∧ Below w.heap.size w w' := by
  have hw : IsWay w w.heap.size a n b n2 rs zs := ⟨hn, hz.1, Nat.le_refl _, hr, hz.2.2.2⟩
  obtain ⟨L, y, hL6, hCS, hCI⟩ := two_LocksBetween n n2 rs zs p q hn hm
  have CS := Lib.hid hCS
  have CI := Lib.hid hCI
  clear hCS hCI
  have hm2 := hz.2.1
  clear hn hr hz
  have HW := Lib.hid hw
  have HM := Lib.hid hm
  have HM2 := Lib.hid hm2
  clear hw hm hm2
  by_cases hfit : (n : Int) + (n2 : Int) ≤ 1048576
  · have SZ := Lib.hid (fun W => szW_any a b n c n2 c2 1048576 W HM.out HM2.out (by omega) (by omega) (1048576 - n - n2) (fun _ => rfl) (fun h => absurd hfit h))
    have hney : (y != y) = false := by simp
    go_enter Try.func8, Try.ntmps8
    have S0 := Lib.hid ((St.start w).box (.slice a n c) (.slice b n2 c2) 44)
    go_wp2_with fail
    refine (SZ.out _).mono ?_
    rintro e w1 ⟨rfl, hb⟩
    have S1 := Lib.hid (S0.out.quiet hb)
    have hl1 : n ≤ 1048576 := by omega
    have hl2 : n2 ≤ 1048576 := by omega
    have hl3 : n ≤ maxLen := HM.out
    clear hb S0 SZ
    -- the copy for the model, the model's answer
    have c0 := (S1.out.cell (w.heap.size, 0, .slice a n c) (by simp)).2
    have c1 := (S1.out.cell (w.heap.size, 1, .slice b n2 c2) (by simp)).2
    go_wp2_with fail
    refine (toW_way c c2 (HW.out.below S1.out.low (Nat.le_refl _)) hl1 hl2).mono ?_
    rintro e w2 ⟨g, g2, rfl, -, -, -, i2, hb⟩
    have S2 := Lib.hid (S1.out.quiet hb)
    clear hb S1 c0 c1
    go_wp2_with fail
    refine (CS.out _ _ _ _ n n2 i2).mono ?_
    rintro e w3 ⟨gw, cw, rfl, hgw, hown, hb⟩
    have S3 := Lib.hid ((S2.out.quiet hb).own (ri gw L.length cw (L.map (.int .i64))) (own_low hown S2.out.low.size))
    have z3 := (hown.lt gw rfl).2
    have z3' : w.heap.size < gw := by have := World.block_lt_of_cell? w2 ⟨w.heap.size, 0, none⟩ (S2.out.cell (w.heap.size, 0, .slice a n c) (by simp)).2; simp at this; omega
    clear hb S2 i2 hown hgw
    -- the copy for the program, its answer
    have c0 := (S3.out.cell (w.heap.size, 0, .slice a n c) (by simp)).2
    have c1 := (S3.out.cell (w.heap.size, 1, .slice b n2 c2) (by simp)).2
    go_wp2_with fail
    refine (toW_way c c2 (HW.out.below S3.out.low (Nat.le_refl _)) hl1 hl2).mono ?_
    rintro e w4 ⟨h, h2, rfl, hh, ho1, ho2, i4, hb⟩
    obtain ⟨y1, y2⟩ := ho1.lt h rfl
    obtain ⟨y3, y4⟩ := ho2.lt h2 rfl
    have S4 := Lib.hid ((((S3.out.quiet hb).own (ri h2 n2 n2 (zs.map (.int .i64))) (own_low ho2 S3.out.low.size)).own (rr h n n (flat rs)) (own_low ho1 S3.out.low.size)).box (.slice (some ⟨h, 0, none⟩) n n) (.slice (some ⟨h2, 0, none⟩) n2 n2) 27)
    have j4 := Lib.hid (fun o => i4.below ((Below.refl _ w4).alloc (Nat.le_refl _) o) (Nat.le_refl _))
    clear hb S3 c0 c1 ho1 ho2 i4
    go_wp2_with fail
    obtain ⟨xb, hxb⟩ : ∃ xb, w4.heap.size = xb := ⟨_, rfl⟩
    obtain ⟨W4, hW4⟩ : ∃ W4, w4.alloc (.cells #[.slice (some ⟨h, 0, none⟩) n n, .slice (some ⟨h2, 0, none⟩) n2 n2] 27) = W4 := ⟨_, rfl⟩
    have z4 : W4.heap.size = xb + 1 := by rw [← hW4, ← hxb]; simp
    replace j4 := j4.out (.cells #[.slice (some ⟨h, 0, none⟩) n n, .slice (some ⟨h2, 0, none⟩) n2 n2] 27)
    rw [hW4] at S4 j4 ⊢
    rw [hxb] at S4 j4 y2 y4 ⊢
    clear hW4 hxb
    refine (CI.out _ _ _ _ n n2 j4).mono ?_
    rintro e w5 ⟨gg, cg, rfl, hgg, hown, hb⟩
    have S5 := Lib.hid ((S4.out.quiet hb).own (ri gg L.length cg (L.map (.int .i64))) (own_low hown S4.out.low.size))
    have j5 := Lib.hid (j4.below hb (by omega))
    clear hb S4 j4 hown
    -- the same?
    go_wp2_with fail
    refine (eqI_same _ _ L.length _ _ _ _ L _ rfl (by unfold maxLen; omega) (own_hasv (S5.out.row (ri gg L.length cg (L.map (.int .i64))) (by simp))) (own_hasv (S5.out.row (ri gw L.length cw (L.map (.int .i64))) (by simp)))).mono ?_
    rintro e w6 ⟨rfl, hD⟩
    have S6 := Lib.hid (S5.out.drawn hD)
    have j6 := Lib.hid (j5.out.below (hD.below _) (Nat.le_refl _))
    clear hD S5 j5
    have KEEP := Lib.hid (fun W (hb : Below w6.heap.size w6 W) => (⟨hb, (((S6.out.quiet hb).cell (xb, 0, .slice (some ⟨h, 0, none⟩) n n) (by simp)).2 : W.cell? ⟨xb, 0, none⟩ = _), (((S6.out.quiet hb).cell (xb, 1, .slice (some ⟨h2, 0, none⟩) n2 n2) (by simp)).2 : W.cell? ⟨xb, 1, none⟩ = _), (((S6.out.quiet hb).cell (w.heap.size, 0, .slice a n c) (by simp)).2 : W.cell? ⟨w.heap.size, 0, none⟩ = _), (((S6.out.quiet hb).cell (w.heap.size, 1, .slice b n2 c2) (by simp)).2 : W.cell? ⟨w.heap.size, 1, none⟩ = _)⟩ :
      Below w6.heap.size w6 W ∧ W.cell? ⟨xb, 0, none⟩ = some (.slice (some ⟨h, 0, none⟩) n n) ∧ W.cell? ⟨xb, 1, none⟩ = some (.slice (some ⟨h2, 0, none⟩) n2 n2) ∧ W.cell? ⟨w.heap.size, 0, none⟩ = some (.slice a n c) ∧ W.cell? ⟨w.heap.size, 1, none⟩ = some (.slice b n2 c2)))
    have KD := Lib.hid (KEEP.out w6.drew ((Drawn.one w6 1).below _))
    have KT := Lib.hid (fun W W' (hb : Below w6.heap.size w6 W) (hb' : Below W.heap.size W W') => KEEP.out W' (hb.trans (hb'.mono hb.size)))
    have IA := Lib.hid (fun W (hb : Below w6.heap.size w6 W) => HW.out.below (S6.out.quiet hb).low (Nat.le_refl _))
    have IX := Lib.hid (fun W (hb : Below w6.heap.size w6 W) => (j6.out.all.below hb (Nat.le_refl _)))
    go_wp2_with fail
    go_region_held3 (fun W => Below w6.heap.size w6 W ∧ W.cell? ⟨xb, 0, none⟩ = some (.slice (some ⟨h, 0, none⟩) n n) ∧ W.cell? ⟨xb, 1, none⟩ = some (.slice (some ⟨h2, 0, none⟩) n2 n2) ∧ W.cell? ⟨w.heap.size, 0, none⟩ = some (.slice a n c) ∧ W.cell? ⟨w.heap.size, 1, none⟩ = some (.slice b n2 c2))
      (first | exact KD.out | exact KT.out _ _ KD.out.1 hb6 | exact KT.out _ _ (KD.out.1.trans (hb6.mono KD.out.1.size)) hb7)
      (first
        | (go_at_call 32; refine (toW_way c c2 (IA.out _ KD.out.1) hl1 hl2).mono ?_; rintro e w7a ⟨q1, q2, rfl, -, -, -, i6, hb6⟩)
        | (go_at_call 34; refine (eqW_way n n2 n n2 (IX.out _ (KD.out.1.trans (hb6.mono KD.out.1.size))) i6 hl3 HM2.out).mono ?_; rintro e w7 ⟨rfl, hb7⟩))
    have S7 := Lib.hid (S6.out.quiet (KT.out _ _ (KD.out.1.trans (hb6.mono KD.out.1.size)) hb7).1)
    have c0 := (S7.out.cell (w.heap.size, 0, .slice a n c) (by simp)).2
    have c1 := (S7.out.cell (w.heap.size, 1, .slice b n2 c2) (by simp)).2
    have d0 := (S7.out.cell (xb, 0, .slice (some ⟨h, 0, none⟩) n n) (by simp)).2
    have d1 := (S7.out.cell (xb, 1, .slice (some ⟨h2, 0, none⟩) n2 n2) (by simp)).2
    clear KEEP KD KT IA IX hb6 hb7 i6 S6 j6
    go_wp2_with fail
    -- the argument is written over
    refine (markW_row _ _ n n2 w.heap.size 1 (flat rs) (zs.map (.int .i64)) _ (by omega) (by omega) (S7.out.row (rr h n n (flat rs)) (by simp)) (S7.out.row (ri h2 n2 n2 (zs.map (.int .i64))) (by simp)) (.inr (by simp [Value.ownBlock]; exact fun e => hh e.symm))).mono ?_
    rintro e w8 ⟨rfl, M, hg1, hg2, hoM, ho8⟩
    have T7 := S7.out.sub (rows' := [rr h n n (flat rs), ri h2 n2 n2 (zs.map (.int .i64)), ri gg L.length cg (L.map (.int .i64)), ri gw L.length cw (L.map (.int .i64))]) (by simp)
    replace hg1 : _root_.Go.World.grownBy _ M (some h) := hg1
    replace hg2 : M.grownBy w8 (some h2) := hg2
    have T8 := (T7.turn (r' := rr h n n (nums 1 (3 * n))) hg1 (fun q e => by cases e; omega) (by simp; omega) (by simp [Value.ownBlock]; omega) hoM).sub (rows' := [ri h2 n2 n2 (zs.map (.int .i64)), rr h n n (nums 1 (3 * n)), ri gg L.length cg (L.map (.int .i64)), ri gw L.length cw (L.map (.int .i64))]) (by simp)
    have T9 := T8.turn (r' := ri h2 n2 n2 (nums (1 + 3 * n) n2)) hg2 (fun q e => by cases e; omega) (by simp; omega) (by simp [Value.ownBlock]; omega) ho8
    have S8 := Lib.hid (T9.sub (rows' := [ri gg L.length cg (L.map (.int .i64)), ri gw L.length cw (L.map (.int .i64))]) (by simp))
    clear hg1 hg2 hoM ho8 T7 T8 T9 S7 c0 c1 d0 d1
    have hk1 : ¬ (1 + 3 * (n : Int) + (n2 : Int) < 0) := by omega
    go_wp2_with fail
    -- the answer is as it was
    refine (eqI_same _ _ L.length _ _ _ _ L _ rfl (by unfold maxLen; omega) (own_hasv (S8.out.row (ri gg L.length cg (L.map (.int .i64))) (by simp))) (own_hasv (S8.out.row (ri gw L.length cw (L.map (.int .i64))) (by simp)))).mono ?_
    rintro e w9 ⟨rfl, hD⟩
    have S9 := Lib.hid (S8.out.drawn hD)
    clear hD S8
    go_wp2_with fail
    -- the answer is marked, the marks are found
    refine (markI_row _ L.length w.heap.size 1 _ _ (by omega) (by omega) (S9.out.row (ri gg L.length cg (L.map (.int .i64))) (by simp))).mono ?_
    rintro e w10 ⟨rfl, hown, hg1⟩
    replace hg1 : w9.grownBy w10 (some gg) := hg1
    have S10 := Lib.hid (S9.out.turn (r' := ri gg L.length cg (nums 1 L.length)) hg1 (fun q e => by cases e; omega) (by simp; omega) (by simp [Value.ownBlock]; omega) hown)
    clear hown hg1 S9
    have hL7 : (L.length : Int) ≤ 6 := by omega
    generalize hLn : L.length = Ln at *
    go_wp2_with fail
    refine (heldI_any _ Ln cg _ 1 _ (by omega) (by omega) (own_hasv (S10.out.row (ri gg Ln cg (nums 1 Ln)) (by simp)))).mono ?_
    rintro e w11 ⟨rfl, rfl⟩
    have hq1 : ¬ (1 + (Ln : Int) < 0) := by omega
    have hq2 : ((1 + (Ln : Int)) != (1 + (Ln : Int))) = false := by simp
    have c0 := (S10.out.cell (w.heap.size, 0, .slice a n c) (by simp)).2
    have c1 := (S10.out.cell (w.heap.size, 1, .slice b n2 c2) (by simp)).2
    go_wp2_with fail
    -- asked again
    refine (toW_way c c2 (HW.out.below S10.out.low (Nat.le_refl _)) hl1 hl2).mono ?_
    rintro e w12 ⟨k, k2, rfl, -, -, -, i12, hb⟩
    have S12 := Lib.hid (S10.out.quiet hb)
    clear hb S10 c0 c1
    go_wp2_with fail
    refine (CI.out _ _ _ _ n n2 i12).mono ?_
    rintro e w13 ⟨gh, ch, rfl, -, hown, hb⟩
    rw [hLn] at hown ⊢
    have S13 := Lib.hid ((S12.out.quiet hb).own (ri gh Ln ch (L.map (.int .i64))) (own_low hown S12.out.low.size))
    clear hb S12 hown i12
    go_wp2_with fail
    refine (eqI_same _ _ Ln _ _ _ _ L _ hLn (by unfold maxLen; omega) (own_hasv (S13.out.row (ri gh Ln ch (L.map (.int .i64))) (by simp))) (own_hasv (S13.out.row (ri gw Ln cw (L.map (.int .i64))) (by simp)))).mono ?_
    rintro e w14 ⟨rfl, hD⟩
    have S14 := Lib.hid (S13.out.drawn hD)
    clear hD S13
    go_wp2_with fail
    refine (heldI_any _ Ln cg _ 1 _ (by omega) (by omega) (own_hasv (S14.out.row (ri gg Ln cg (nums 1 Ln)) (by simp)))).mono ?_
    rintro e w15 ⟨rfl, rfl⟩
    go_wp2_with fail
    go_ret
    exact ⟨rfl, S14.out.low⟩
  · have SZ := Lib.hid (fun W => szW_any a b n c n2 c2 1048576 W HM.out HM2.out (by omega) (by omega) (-1) (fun h => absurd h hfit) (fun _ => rfl))
    clear hfit
    go_enter Try.func8, Try.ntmps8
    go_wp2_with fail
    refine (SZ.out _).mono ?_
    rintro e w1 ⟨rfl, hb⟩
    go_wp2_with fail
    go_ret
    exact ⟨rfl, ((Below.refl _ _).alloc (Nat.le_refl _) _).trans (hb.mono (by simp))⟩
theorem own : ownKnob Try.prog.godebug = none := by kernel_rfl
theorem laidOut : laidOutB Try.prog = true := by kernel_rfl

set_option maxRecDepth 100000 in
theorem lifted (os : Os) (started : os.Started) (H : Type) (enc : TypeId × Value → H) :
    ReturnsInHanded {} Try.checked os 8 .any (Rows.fnExactLocksBetweenSpec.pre6 enc Try.prog Try.f8 Rows.fnExactLocksBetweenRow.domain false) (Rows.fnExactLocksBetweenSpec.post enc Try.prog Try.f8 false true false false) := by
  refine returnsInHanded_of_change (C := Try.checked) own started (by kernel_rfl) Try.func8
    (ChangeSpec.witness6 (enc := enc) (C := Try.checked) false ⟨#[], #[.agg #[.slice none 0 0, .slice none 0 0], .int .i64 0, .int .i64 0], []⟩ 8 (by kernel_rfl) (by kernel_rfl) (by kernel_rfl) (by kernel_rfl)) ?_
  intro W base args ds gs before hval0 hW hcnd _
  have hval : ∀ (j : Nat) t v, Try.f8.params[j]? = some t → args[j]? = some v → Value.okWide Try.prog W .any base t v := hval0
  have hW' := hW
  obtain ⟨p, q, hA0, hV, rfl, hfz, hnd⟩ := hW
  have hA : DataW.TrodAll enc Try.prog W 0 (fun _ => true) true Try.f8.params.toList args.toList ds p := hA0
  rw [Try.params8] at hA hval
  obtain ⟨v0, vs0, d0, ds0, p0, q0, hargs, rfl, rfl, h0, r0⟩ := trodAll_cons hA
  obtain ⟨v1, vs1, d1, ds1, p1, q1, rfl, rfl, rfl, h1, r1⟩ := trodAll_cons r0
  obtain ⟨v2, vs2, d2, ds2, p2, q2, rfl, rfl, rfl, h2, r2⟩ := trodAll_cons r1
  obtain ⟨rfl, rfl, rfl⟩ := trodAll_nil r2
  obtain rfl : args = #[v0, v1, v2] := by cases args; simp_all
  obtain ⟨rfl, rfl⟩ := trodVars_none hV
  have k0 := h0
  have lt0 : ∀ x ∈ p0, x.block < W.heap.size := by obtain ⟨m, hm⟩ := k0; exact DataW.trod_lt m _ _ _ hm
  obtain ⟨c0, e0, y0, u0, m0, rfl, rfl, rfl, hy0, hu0⟩ := Go.Joins.open_agg2 Try.underlying44 (by kernel_rfl) (by kernel_rfl) (hval 0 44 v0 rfl rfl) h0
  obtain ⟨a0, len0, cap0, r0x, hcs, hrl0, hrm0, -, hrh0⟩ := open_reaches Try.underlying42 Try.underlying89 (by kernel_rfl) (by kernel_rfl) Try.underlying3 Try.underlying3 Try.underlying3 hy0
  injection hcs with hcs _
  subst hcs
  obtain ⟨b0, zen0, zap0, z0, hzs, w0⟩ : ∃ (b : Option Addr) (zen zap : Nat) (zs : List Int), e0 = .slice b zen zap ∧ IsInts .i64 W b zen zs := by
    rcases open_ints Try.underlying25 Try.underlying3 (by kernel_rfl) hu0 with ⟨hcs, _⟩ | ⟨x, l, c, zs, hcs, _, hl, hm, hz, _, hcell, hwz⟩
    · injection hcs with hcs _
      exact ⟨none, 0, 0, [], hcs, isInts_nil _ W⟩
    · injection hcs with hcs _
      exact ⟨_, _, _, _, hcs, isInts_some hl hm (by simpa using hz) hcell hwz⟩
  subst hzs
  obtain ⟨a1, rfl, rfl, rfl, w1⟩ := open_int Try.underlying3 (hval 1 3 v1 rfl rfl) h1
  obtain ⟨a2, rfl, rfl, rfl, w2⟩ := open_int Try.underlying3 (hval 2 3 v2 rfl rfl) h2
  clear hA0 hval0
  refine (walk a0 len0 cap0 r0x b0 zen0 zap0 z0 a1 a2 W hrl0 hrm0 hrh0 w0 w1 w2).mono fun e W' ⟨he, bel⟩ => ?_
  subst he
  exact ⟨_, rfl, _, _, _, [], _, [], hW', trodAll_mk1 (shut_bool Try.underlying4 _), (trodAll_cons_mk (Below.trod laidOut (by kernel_rfl) (of_decide_eq_true (by kernel_rfl)) k0 bel lt0) (trodAll_cons_mk (shut_int Try.underlying3 w1) (trodAll_cons_mk (shut_int Try.underlying3 w2) trodAll_mk0))), rfl, bel.frame _, fun h => by cases h⟩

theorem over : Rows.fnExactLocksBetweenRow.holds Try.pinned (OpenSpec.ofChange Rows.fnExactLocksBetweenSpec) :=
  OpenClaim.holds_of_wide 8 Try.f8 rfl rfl rfl rfl rfl rfl rfl ⟨rfl, rfl, rfl, rfl, rfl⟩ rfl rfl rfl rfl rfl (by kernel_rfl) Try.func8 (by kernel_rfl)
    (of_decide_eq_true (by kernel_rfl)) (by unfold Func.isWrapper; first | (rw [if_pos (by decide +kernel)]; kernel_rfl) | (rw [if_neg (by decide +kernel)]; exact ⟨rfl, rfl⟩))
    (fun os started H enc _ => lifted os started H enc)

/-- The statement. -/
theorem proved : Rows.FnExactLocksBetweenSaid := over
end Go.Proofs.Ytomehioembakgaa.fnExactLocksBetween
