/- MinutesOnWay answers as its model does, at every waterway and all numbers, and writes into no argument. -/
import Derived.Test.YtgnopkemcgbedabWayWay
import Derived.Test.YtgnopkemcgbedabWayMin
import Derived.OpenShut
import Derived.ShutString
import Derived.ChangeOld
import Derived.WalkLawsBesides
import Derived.Lib.SmallJoins
import Derived.Deep.RegionHeld3
namespace Go.Proofs.Ytgnopkemcgbedab.fnExactMinutesOnWay
open Go.ChangeShapes Go.WideShapes Go.ChangeAt Go.RowKit
open Go.ChangeMaps (open_string shut_string)
set_option linter.unusedVariables false

set_option maxHeartbeats 1000000 in
theorem walk (a : Option Addr) (n c : Nat) (rs : List (Int × Int × Int)) (b : Option Addr) (n2 c2 : Nat) (zs : List Int) (i : Int) (k : Int) (s : Int) (w : World) (hn : rs.length = n) (hm : n ≤ maxLen) (hr : Has w w.heap.size a (flat rs)) (hz : IsInts .i64 w b n2 zs) (ki : (Lit.int .i64 i).wf = true) (kk : (Lit.int .i64 k).wf = true) (ks : (Lit.int .i64 s).wf = true) :
    Calls Try.prog 5 #[.agg #[.slice a n c, .slice b n2 c2], .int .i64 i, .int .i64 k, .int .i64 s] w fun e w' => e = .returned (.bool true) ∧ Below w.heap.size w w' := by
  have hw : IsWay w w.heap.size a n b n2 rs zs := ⟨hn, hz.1, Nat.le_refl _, hr, hz.2.2.2⟩
  obtain ⟨x, y, z, hCS, hCI⟩ := two_MinutesOnWay n n2 rs zs i k s hm ki kk ks
  have CS := Lib.hid hCS
  have CI := Lib.hid hCI
  clear hCS hCI
  have hm2 := hz.2.1
  clear hn hr hz
  have HW := Lib.hid hw
  have HM := Lib.hid hm
  have HM2 := Lib.hid hm2
  clear hw hm hm2
  by_cases hfit : (n : Int) + (n2 : Int) ≤ 1048576
  · have SZ := Lib.hid (fun W => szW_any a b n c n2 c2 1048576 W HM.out HM2.out (by omega) (by omega) (1048576 - n - n2) (fun _ => rfl) (fun h => absurd hfit h))
    have hnex : (x != x) = false := by simp
    have hney : (y != y) = false := by simp
    have hnez : (z != z) = false := by simp
    go_enter Try.func5, Try.ntmps5
    go_wp2_with fail
    refine (SZ.out _).mono ?_
    rintro e w1 ⟨rfl, hb⟩
    have hl1 : n ≤ 1048576 := by omega
    have hl2 : n2 ≤ 1048576 := by omega
    have hl3 : n ≤ maxLen := HM.out
    have B1 := Lib.hid ((Below.refl (w.heap.size + 1) (w.alloc (.cells #[.slice a n c, .slice b n2 c2] 60))).trans (hb.mono (by simp)))
    have Z1 := Lib.hid hb.size
    clear hb
    -- the box of the argument, in every world behind
    have box : ∀ W, Below (w.heap.size + 1) (w.alloc (.cells #[.slice a n c, .slice b n2 c2] 60)) W → W.cell? ⟨w.heap.size, 0, none⟩ = some (.slice a n c) ∧ W.cell? ⟨w.heap.size, 1, none⟩ = some (.slice b n2 c2) ∧ IsWay W w.heap.size a n b n2 rs zs ∧ w.heap.size + 1 ≤ W.heap.size := fun W hb =>
      ⟨(hb.cell (by simp)).trans (by rw [cellNew]; rfl), (hb.cell (by simp)).trans (by rw [cellNew]; rfl), (HW.out.below (((Below.refl _ w).alloc (Nat.le_refl _) _).trans (hb.mono (by omega))) (Nat.le_refl _)), by have := hb.size; simpa using this⟩
    have BOX := Lib.hid box
    clear box
    obtain ⟨c0, c1, i1, z1⟩ := BOX.out _ B1.out
    go_wp2_with fail
    refine (toW_way c c2 i1 hl1 hl2).mono ?_
    rintro e w2 ⟨g, g2, rfl, -, -, -, i2, hb⟩
    have B2 := Lib.hid (B1.out.trans (hb.mono z1))
    have hz := hb.size
    clear hb B1 c0 c1 i1
    go_wp2_with fail
    refine (CS.out _ _ _ _ n n2 i2 (Nat.le_refl _) (Nat.le_refl _)).mono ?_
    rintro e w3 ⟨rfl, hb⟩
    have B3 := Lib.hid (B2.out.trans (hb.mono (by omega)))
    clear hb B2 i2 z1
    obtain ⟨c0, c1, i1, z1⟩ := BOX.out _ B3.out
    go_wp2_with fail
    refine (toW_way c c2 i1 hl1 hl2).mono ?_
    rintro e w4 ⟨h, h2, rfl, -, -, -, i4, hb⟩
    have B4 := Lib.hid (B3.out.trans (hb.mono z1))
    clear hb B3 c0 c1 i1 z1
    go_wp2_with fail
    obtain ⟨xb, hxb⟩ : ∃ xb, w4.heap.size = xb := ⟨_, rfl⟩
    obtain ⟨W4, hW4⟩ : ∃ W4, w4.alloc (.cells #[.slice (some ⟨h, 0, none⟩) n n, .slice (some ⟨h2, 0, none⟩) n2 n2] 27) = W4 := ⟨_, rfl⟩
    have z4 : W4.heap.size = xb + 1 := by rw [← hW4, ← hxb]; simp
    have j4 : IsWay W4 xb (some ⟨h, 0, none⟩) n (some ⟨h2, 0, none⟩) n2 rs zs := by rw [← hW4, ← hxb]; exact i4.below ((Below.refl _ _).alloc (Nat.le_refl _) _) (Nat.le_refl _)
    have B5 := Lib.hid (B4.out.alloc (by rw [hxb]; have := (BOX.out _ B4.out).2.2.2; omega) (.cells #[.slice (some ⟨h, 0, none⟩) n n, .slice (some ⟨h2, 0, none⟩) n2 n2] 27))
    have zx : w.heap.size + 1 ≤ xb := by rw [← hxb]; exact (BOX.out _ B4.out).2.2.2
    have d0 : W4.cell? ⟨xb, 0, none⟩ = some (.slice (some ⟨h, 0, none⟩) n n) := by rw [← hW4, ← hxb, cellNew]; rfl
    have d1 : W4.cell? ⟨xb, 1, none⟩ = some (.slice (some ⟨h2, 0, none⟩) n2 n2) := by rw [← hW4, ← hxb, cellNew]; rfl
    rw [hW4] at B5 ⊢
    rw [hxb]
    clear hW4 hxb i4 B4
    refine (CI.out _ _ _ _ n n2 j4 (Nat.le_refl _) (Nat.le_refl _)).mono ?_
    rintro e w5 ⟨rfl, hb⟩
    have B6 := Lib.hid (B5.out.trans (hb.mono (by omega)))
    have j5 := Lib.hid (j4.below hb (by omega))
    have e0 := (hb.cell (p := ⟨xb, 0, none⟩) (by show xb < _; omega)).trans d0
    have e1 := (hb.cell (p := ⟨xb, 1, none⟩) (by show xb < _; omega)).trans d1
    have z5 : xb + 1 ≤ w5.heap.size := by have := hb.size; omega
    obtain ⟨c0, c1, -, -⟩ := BOX.out _ B6.out
    have KEEP := Lib.hid (fun W (hb : Below w5.heap.size w5 W) => (⟨hb, (hb.cell (p := ⟨xb, 0, none⟩) (by show xb < _; omega)).trans e0, (hb.cell (p := ⟨xb, 1, none⟩) (by show xb < _; omega)).trans e1, (hb.cell (p := ⟨w.heap.size, 0, none⟩) (by show w.heap.size < _; omega)).trans c0, (hb.cell (p := ⟨w.heap.size, 1, none⟩) (by show w.heap.size < _; omega)).trans c1⟩ :
      Below w5.heap.size w5 W ∧ W.cell? ⟨xb, 0, none⟩ = some (.slice (some ⟨h, 0, none⟩) n n) ∧ W.cell? ⟨xb, 1, none⟩ = some (.slice (some ⟨h2, 0, none⟩) n2 n2) ∧ W.cell? ⟨w.heap.size, 0, none⟩ = some (.slice a n c) ∧ W.cell? ⟨w.heap.size, 1, none⟩ = some (.slice b n2 c2)))
    have KD := Lib.hid (KEEP.out w5.drew ((Drawn.one w5 1).below _))
    have KT := Lib.hid (fun W W' (hb : Below w5.heap.size w5 W) (hb' : Below W.heap.size W W') => KEEP.out W' (hb.trans (hb'.mono hb.size)))
    have IA := Lib.hid (fun W (hb : Below w5.heap.size w5 W) => (BOX.out W (B6.out.trans (hb.mono (by omega)))).2.2.1)
    have IX := Lib.hid (fun W (hb : Below w5.heap.size w5 W) => (j5.out.all.below hb (Nat.le_refl _)))
    have EB := Lib.hid (fun W (hb : Below w5.heap.size w5 W) => (((Below.refl _ w).alloc (Nat.le_refl _) (.cells #[.slice a n c, .slice b n2 c2] 60)).trans ((B6.out.trans (hb.mono (by omega))).mono (by omega)) : Below w.heap.size w W))
    clear hb d0 d1 j4 z4 B5
    go_wp2_with fail
    go_region_held3 (fun W => Below w5.heap.size w5 W ∧ W.cell? ⟨xb, 0, none⟩ = some (.slice (some ⟨h, 0, none⟩) n n) ∧ W.cell? ⟨xb, 1, none⟩ = some (.slice (some ⟨h2, 0, none⟩) n2 n2) ∧ W.cell? ⟨w.heap.size, 0, none⟩ = some (.slice a n c) ∧ W.cell? ⟨w.heap.size, 1, none⟩ = some (.slice b n2 c2))
      (first | exact KD.out | exact KT.out _ _ KD.out.1 hb6 | exact KT.out _ _ (KD.out.1.trans (hb6.mono KD.out.1.size)) hb7)
      (first
        | (go_at_call 40; refine (toW_way c c2 (IA.out _ KD.out.1) hl1 hl2).mono ?_; rintro e w6 ⟨q, q2, rfl, -, -, -, i6, hb6⟩)
        | (go_at_call 41; refine (eqW_way n n2 n n2 (IX.out _ (KD.out.1.trans (hb6.mono KD.out.1.size))) i6 hl3 HM2.out).mono ?_; rintro e w7 ⟨rfl, hb7⟩))
    go_wp2_with fail
    go_ret
    exact ⟨rfl, EB.out _ (KT.out _ _ (KD.out.1.trans (hb6.mono KD.out.1.size)) hb7).1⟩
  · have SZ := Lib.hid (fun W => szW_any a b n c n2 c2 1048576 W HM.out HM2.out (by omega) (by omega) (-1) (fun h => absurd h hfit) (fun _ => rfl))
    clear hfit
    go_enter Try.func5, Try.ntmps5
    go_wp2_with fail
    refine (SZ.out _).mono ?_
    rintro e w1 ⟨rfl, hb⟩
    go_wp2_with fail
    go_ret
    exact ⟨rfl, ((Below.refl _ _).alloc (Nat.le_refl _) _).trans (hb.mono (by simp))⟩
theorem own : ownKnob Try.prog.godebug = none := by kernel_rfl
theorem laidOut : laidOutB Try.prog = true := by kernel_rfl

set_option maxRecDepth 100000 in
theorem lifted (os : Os) (started : os.Started) (H : Type) (enc : TypeId × Value → H) :
    ReturnsInHanded {} Try.checked os 5 .any (Rows.fnExactMinutesOnWaySpec.pre6 enc Try.prog Try.f5 Rows.fnExactMinutesOnWayRow.domain false) (Rows.fnExactMinutesOnWaySpec.post enc Try.prog Try.f5 false true false false) := by
  refine returnsInHanded_of_change (C := Try.checked) own started (by kernel_rfl) Try.func5
    (ChangeSpec.witness6 (enc := enc) (C := Try.checked) false ⟨#[], #[.agg #[.slice none 0 0, .slice none 0 0], .int .i64 0, .int .i64 0, .int .i64 0], []⟩ 8 (by kernel_rfl) (by kernel_rfl) (by kernel_rfl) (by kernel_rfl)) ?_
  intro W base args ds gs before hval0 hW hcnd _
  have hval : ∀ (j : Nat) t v, Try.f5.params[j]? = some t → args[j]? = some v → Value.okWide Try.prog W .any base t v := hval0
  have hW' := hW
  obtain ⟨p, q, hA0, hV, rfl, hfz, hnd⟩ := hW
  have hA : DataW.TrodAll enc Try.prog W 0 (fun _ => true) true Try.f5.params.toList args.toList ds p := hA0
  rw [Try.params5] at hA hval
  obtain ⟨v0, vs0, d0, ds0, p0, q0, hargs, rfl, rfl, h0, r0⟩ := trodAll_cons hA
  obtain ⟨v1, vs1, d1, ds1, p1, q1, rfl, rfl, rfl, h1, r1⟩ := trodAll_cons r0
  obtain ⟨v2, vs2, d2, ds2, p2, q2, rfl, rfl, rfl, h2, r2⟩ := trodAll_cons r1
  obtain ⟨v3, vs3, d3, ds3, p3, q3, rfl, rfl, rfl, h3, r3⟩ := trodAll_cons r2
  obtain ⟨rfl, rfl, rfl⟩ := trodAll_nil r3
  obtain rfl : args = #[v0, v1, v2, v3] := by cases args; simp_all
  obtain ⟨rfl, rfl⟩ := trodVars_none hV
  have k0 := h0
  have lt0 : ∀ x ∈ p0, x.block < W.heap.size := by obtain ⟨m, hm⟩ := k0; exact DataW.trod_lt m _ _ _ hm
  obtain ⟨c0, e0, y0, u0, m0, rfl, rfl, rfl, hy0, hu0⟩ := Go.Joins.open_agg2 Try.underlying60 (by kernel_rfl) (by kernel_rfl) (hval 0 60 v0 rfl rfl) h0
  obtain ⟨a0, len0, cap0, r0x, hcs, hrl0, hrm0, -, hrh0⟩ := open_reaches Try.underlying58 Try.underlying131 (by kernel_rfl) (by kernel_rfl) Try.underlying3 Try.underlying3 Try.underlying3 hy0
  injection hcs with hcs _
  subst hcs
  obtain ⟨b0, zen0, zap0, z0, hzs, w0⟩ : ∃ (b : Option Addr) (zen zap : Nat) (zs : List Int), e0 = .slice b zen zap ∧ IsInts .i64 W b zen zs := by
    rcases open_ints Try.underlying25 Try.underlying3 (by kernel_rfl) hu0 with ⟨hcs, _⟩ | ⟨x, l, c, zs, hcs, _, hl, hm, hz, _, hcell, hwz⟩
    · injection hcs with hcs _
      exact ⟨none, 0, 0, [], hcs, isInts_nil _ W⟩
    · injection hcs with hcs _
      exact ⟨_, _, _, _, hcs, isInts_some hl hm (by simpa using hz) hcell hwz⟩
  subst hzs
  obtain ⟨a1, rfl, rfl, rfl, w1⟩ := open_int Try.underlying3 (hval 1 3 v1 rfl rfl) h1
  obtain ⟨a2, rfl, rfl, rfl, w2⟩ := open_int Try.underlying3 (hval 2 3 v2 rfl rfl) h2
  obtain ⟨a3, rfl, rfl, rfl, w3⟩ := open_int Try.underlying3 (hval 3 3 v3 rfl rfl) h3
  clear hA0 hval0
  refine (walk a0 len0 cap0 r0x b0 zen0 zap0 z0 a1 a2 a3 W hrl0 hrm0 hrh0 w0 w1 w2 w3).mono fun e W' ⟨he, bel⟩ => ?_
  subst he
  exact ⟨_, rfl, _, _, _, [], _, [], hW', trodAll_mk1 (shut_bool Try.underlying4 _), (trodAll_cons_mk (Below.trod laidOut (by kernel_rfl) (of_decide_eq_true (by kernel_rfl)) k0 bel lt0) (trodAll_cons_mk (shut_int Try.underlying3 w1) (trodAll_cons_mk (shut_int Try.underlying3 w2) (trodAll_cons_mk (shut_int Try.underlying3 w3) trodAll_mk0)))), rfl, bel.frame _, fun h => by cases h⟩

theorem over : Rows.fnExactMinutesOnWayRow.holds Try.pinned (OpenSpec.ofChange Rows.fnExactMinutesOnWaySpec) :=
  OpenClaim.holds_of_wide 5 Try.f5 rfl rfl rfl rfl rfl rfl rfl ⟨rfl, rfl, rfl, rfl, rfl⟩ rfl rfl rfl rfl rfl (by kernel_rfl) Try.func5 (by kernel_rfl)
    (of_decide_eq_true (by kernel_rfl)) (by unfold Func.isWrapper; first | (rw [if_pos (by decide +kernel)]; kernel_rfl) | (rw [if_neg (by decide +kernel)]; exact ⟨rfl, rfl⟩))
    (fun os started H enc _ => lifted os started H enc)

/-- The statement. -/
theorem proved : Rows.FnExactMinutesOnWaySaid := over
end Go.Proofs.Ytgnopkemcgbedab.fnExactMinutesOnWay
