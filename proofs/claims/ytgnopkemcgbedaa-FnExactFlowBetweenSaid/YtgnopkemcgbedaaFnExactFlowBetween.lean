/- FlowBetween answers as its model does, at all Pools. -/
import Derived.Test.YtgnopkemcgbedaaPoC
import Derived.Test.YtgnopkemcgbedaaSt0
import Derived.OpenShut
import Derived.ShutString
import Derived.ChangeOld
import Derived.WalkLawsBesides
import Derived.Lib.SmallJoins
import Derived.Deep.RegionHeld3
namespace Go.Proofs.Ytgnopkemcgbedaa.fnExactFlowBetween
open Go.ChangeShapes Go.WideShapes Go.ChangeAt Go.RowKit
open Go.ChangeMaps (open_string shut_string)
set_option linter.unusedVariables false
set_option linter.unusedSimpArgs false

abbrev ri (g n c : Nat) (xs : List Value) : RowOf := ⟨3, 1, .slice (some ⟨g, 0, none⟩) n c, n, xs⟩

set_option maxRecDepth 100000 in
set_option maxHeartbeats 4000000 in
theorem walk (p0 : Int) (p1 : Int) (p2 : Int) (r0 : Int) (r1 : Int) (r2 : Int) (w : World)   :
    Calls Try.prog 8 #[.agg #[.int .i64 p0, .int .i64 p1, .int .i64 p2], .agg #[.int .i64 r0, .int .i64 r1, .int .i64 r2]] w fun e w' => e = .returned (.bool true) ∧ Below w.heap.size w w' := by
  obtain ⟨z, x, hA⟩ := floA_ex ⟨p0, p1, p2⟩ ⟨r0, r1, r2⟩
  have HA := Lib.hid hA
  have hzz : (z != z) = false := by simp
  have hxx : (x != x) = false := by simp
  clear hA
  go_enter Try.func8, Try.ntmps8
  have S0 : Hid (St w [(w.heap.size, 0, .int .i64 p0), (w.heap.size, 1, .int .i64 p1), (w.heap.size, 2, .int .i64 p2), (w.heap.size + 1, 0, .int .i64 r0), (w.heap.size + 1, 1, .int .i64 r1), (w.heap.size + 1, 2, .int .i64 r2)] [] (World.alloc (World.alloc w (.cells #[.int .i64 p0, .int .i64 p1, .int .i64 p2] 51)) (.cells #[.int .i64 r0, .int .i64 r1, .int .i64 r2] 51))) := Lib.hid (by
    have k0 := ((St.start w)).quiet (Below.alloc (Below.refl _ w) (Nat.le_refl _) (.cells #[.int .i64 p0, .int .i64 p1, .int .i64 p2] 51))
    have j0 := k0.cells (ds := [(w.heap.size, 0, .int .i64 p0), (w.heap.size, 1, .int .i64 p1), (w.heap.size, 2, .int .i64 p2)]) (fun p hp => by
      simp only [List.mem_cons, List.not_mem_nil, or_false] at hp
      rcases hp with rfl | rfl | rfl
      · exact ⟨by omega, by rw [sNew]; rfl⟩
      · exact ⟨by omega, by rw [sNew]; rfl⟩
      · exact ⟨by omega, by rw [sNew]; rfl⟩)
    have k1 := (j0).quiet (Below.alloc (Below.refl _ (World.alloc w (.cells #[.int .i64 p0, .int .i64 p1, .int .i64 p2] 51))) (Nat.le_refl _) (.cells #[.int .i64 r0, .int .i64 r1, .int .i64 r2] 51))
    have j1 := k1.cells (ds := [(w.heap.size + 1, 0, .int .i64 r0), (w.heap.size + 1, 1, .int .i64 r1), (w.heap.size + 1, 2, .int .i64 r2)]) (fun p hp => by
      simp only [List.mem_cons, List.not_mem_nil, or_false] at hp
      rcases hp with rfl | rfl | rfl
      · exact ⟨by omega, by have := sNew (World.alloc w (.cells #[.int .i64 p0, .int .i64 p1, .int .i64 p2] 51)) #[.int .i64 r0, .int .i64 r1, .int .i64 r2] 51 0; first | (simp at this ⊢; done) | (simp at this ⊢; exact this)⟩
      · exact ⟨by omega, by have := sNew (World.alloc w (.cells #[.int .i64 p0, .int .i64 p1, .int .i64 p2] 51)) #[.int .i64 r0, .int .i64 r1, .int .i64 r2] 51 1; first | (simp at this ⊢; done) | (simp at this ⊢; exact this)⟩
      · exact ⟨by omega, by have := sNew (World.alloc w (.cells #[.int .i64 p0, .int .i64 p1, .int .i64 p2] 51)) #[.int .i64 r0, .int .i64 r1, .int .i64 r2] 51 2; first | (simp at this ⊢; done) | (simp at this ⊢; exact this)⟩)
    exact ⟨j1.low, fun p hp => j1.cell p (by
      simp only [List.mem_cons, List.not_mem_nil, or_false] at hp
      rcases hp with rfl | rfl | rfl | rfl | rfl | rfl <;> simp), j1.row⟩)
  have cc0 := (S0.out.cell (w.heap.size, 0, .int .i64 p0) (by simp)).2
  have cc1 := (S0.out.cell (w.heap.size, 1, .int .i64 p1) (by simp)).2
  have cc2 := (S0.out.cell (w.heap.size, 2, .int .i64 p2) (by simp)).2
  have cc3 := (S0.out.cell (w.heap.size + 1, 0, .int .i64 r0) (by simp)).2
  have cc4 := (S0.out.cell (w.heap.size + 1, 1, .int .i64 r1) (by simp)).2
  have cc5 := (S0.out.cell (w.heap.size + 1, 2, .int .i64 r2) (by simp)).2
  go_wp2_with fail
  clear cc0 cc1 cc2 cc3 cc4 cc5
  generalize hwq : (World.alloc (World.alloc w (.cells #[.int .i64 p0, .int .i64 p1, .int .i64 p2] 51)) (.cells #[.int .i64 r0, .int .i64 r1, .int .i64 r2] 51)) = wq at S0 ⊢
  clear hwq
  have KEEP := Lib.hid (fun W (hb : Below wq.heap.size wq W) => (⟨hb, ((S0.out.quiet hb).cell (w.heap.size, 0, .int .i64 p0) (by simp)).2, ((S0.out.quiet hb).cell (w.heap.size, 1, .int .i64 p1) (by simp)).2, ((S0.out.quiet hb).cell (w.heap.size, 2, .int .i64 p2) (by simp)).2, ((S0.out.quiet hb).cell (w.heap.size + 1, 0, .int .i64 r0) (by simp)).2, ((S0.out.quiet hb).cell (w.heap.size + 1, 1, .int .i64 r1) (by simp)).2, ((S0.out.quiet hb).cell (w.heap.size + 1, 2, .int .i64 r2) (by simp)).2⟩ : Below wq.heap.size wq W ∧ W.cell? ⟨w.heap.size, 0, none⟩ = some (.int .i64 p0) ∧ W.cell? ⟨w.heap.size, 1, none⟩ = some (.int .i64 p1) ∧ W.cell? ⟨w.heap.size, 2, none⟩ = some (.int .i64 p2) ∧ W.cell? ⟨w.heap.size + 1, 0, none⟩ = some (.int .i64 r0) ∧ W.cell? ⟨w.heap.size + 1, 1, none⟩ = some (.int .i64 r1) ∧ W.cell? ⟨w.heap.size + 1, 2, none⟩ = some (.int .i64 r2)))
  have KD := Lib.hid (KEEP.out wq.drew ((Drawn.one wq 1).below _))
  have KT := Lib.hid (fun W W' (hb : Below wq.heap.size wq W) (hb' : Below W.heap.size W W') => KEEP.out W' (hb.trans (hb'.mono hb.size)))
  go_region_held3 (fun W => Below wq.heap.size wq W ∧ W.cell? ⟨w.heap.size, 0, none⟩ = some (.int .i64 p0) ∧ W.cell? ⟨w.heap.size, 1, none⟩ = some (.int .i64 p1) ∧ W.cell? ⟨w.heap.size, 2, none⟩ = some (.int .i64 p2) ∧ W.cell? ⟨w.heap.size + 1, 0, none⟩ = some (.int .i64 r0) ∧ W.cell? ⟨w.heap.size + 1, 1, none⟩ = some (.int .i64 r1) ∧ W.cell? ⟨w.heap.size + 1, 2, none⟩ = some (.int .i64 r2))
    (first | exact KD.out | exact KT.out _ _ KD.out.1 hb6 | exact KT.out _ _ (KD.out.1.trans (hb6.mono KD.out.1.size)) hb7 | exact KT.out _ _ ((KD.out.1.trans (hb6.mono KD.out.1.size)).trans (hb7.mono (KD.out.1.trans (hb6.mono KD.out.1.size)).size)) hb8)
    (first
      | (go_at_call_of 44 (Value.int .i64 p0); refine (toPool_any p0 p1 p2 _).mono ?_; rintro e wa6 ⟨rfl, hb6⟩)
      | (go_at_call_of 44 (Value.int .i64 r0); refine (toPool_any r0 r1 r2 _).mono ?_; rintro e wa7 ⟨rfl, hb7⟩)
      | (go_at_call 25; refine (flowS_any p0 p1 p2 r0 r1 r2 _ z x HA.out).mono ?_; rintro e w1 ⟨rfl, hb8⟩))
  have X6 := KD.out.1.trans (hb6.mono KD.out.1.size)
  have X7 := X6.trans (hb7.mono X6.size)
  have X8 := X7.trans (hb8.mono X7.size)
  have S1 := Lib.hid (S0.out.quiet X8)
  clear KEEP KD KT hb6 hb7 hb8 X6 X7 X8 S0
  have KEEP := Lib.hid (fun W (hb : Below w1.heap.size w1 W) => (⟨hb, ((S1.out.quiet hb).cell (w.heap.size, 0, .int .i64 p0) (by simp)).2, ((S1.out.quiet hb).cell (w.heap.size, 1, .int .i64 p1) (by simp)).2, ((S1.out.quiet hb).cell (w.heap.size, 2, .int .i64 p2) (by simp)).2, ((S1.out.quiet hb).cell (w.heap.size + 1, 0, .int .i64 r0) (by simp)).2, ((S1.out.quiet hb).cell (w.heap.size + 1, 1, .int .i64 r1) (by simp)).2, ((S1.out.quiet hb).cell (w.heap.size + 1, 2, .int .i64 r2) (by simp)).2⟩ : Below w1.heap.size w1 W ∧ W.cell? ⟨w.heap.size, 0, none⟩ = some (.int .i64 p0) ∧ W.cell? ⟨w.heap.size, 1, none⟩ = some (.int .i64 p1) ∧ W.cell? ⟨w.heap.size, 2, none⟩ = some (.int .i64 p2) ∧ W.cell? ⟨w.heap.size + 1, 0, none⟩ = some (.int .i64 r0) ∧ W.cell? ⟨w.heap.size + 1, 1, none⟩ = some (.int .i64 r1) ∧ W.cell? ⟨w.heap.size + 1, 2, none⟩ = some (.int .i64 r2)))
  have KD := Lib.hid (KEEP.out w1.drew ((Drawn.one w1 1).below _))
  have KT := Lib.hid (fun W W' (hb : Below w1.heap.size w1 W) (hb' : Below W.heap.size W W') => KEEP.out W' (hb.trans (hb'.mono hb.size)))
  have cc0 := (S1.out.cell (w.heap.size, 0, .int .i64 p0) (by simp)).2
  have cc1 := (S1.out.cell (w.heap.size, 1, .int .i64 p1) (by simp)).2
  have cc2 := (S1.out.cell (w.heap.size, 2, .int .i64 p2) (by simp)).2
  have cc3 := (S1.out.cell (w.heap.size + 1, 0, .int .i64 r0) (by simp)).2
  have cc4 := (S1.out.cell (w.heap.size + 1, 1, .int .i64 r1) (by simp)).2
  have cc5 := (S1.out.cell (w.heap.size + 1, 2, .int .i64 r2) (by simp)).2
  go_wp2_with fail
  clear cc0 cc1 cc2 cc3 cc4 cc5
  go_region_held3 (fun W => Below w1.heap.size w1 W ∧ W.cell? ⟨w.heap.size, 0, none⟩ = some (.int .i64 p0) ∧ W.cell? ⟨w.heap.size, 1, none⟩ = some (.int .i64 p1) ∧ W.cell? ⟨w.heap.size, 2, none⟩ = some (.int .i64 p2) ∧ W.cell? ⟨w.heap.size + 1, 0, none⟩ = some (.int .i64 r0) ∧ W.cell? ⟨w.heap.size + 1, 1, none⟩ = some (.int .i64 r1) ∧ W.cell? ⟨w.heap.size + 1, 2, none⟩ = some (.int .i64 r2))
    (first | exact KD.out | exact KT.out _ _ KD.out.1 hb6 | exact KT.out _ _ (KD.out.1.trans (hb6.mono KD.out.1.size)) hb7 | exact KT.out _ _ ((KD.out.1.trans (hb6.mono KD.out.1.size)).trans (hb7.mono (KD.out.1.trans (hb6.mono KD.out.1.size)).size)) hb8)
    (first
      | (go_at_call_of 44 (Value.int .i64 p0); refine (toPool_any p0 p1 p2 _).mono ?_; rintro e wa6 ⟨rfl, hb6⟩)
      | (go_at_call_of 44 (Value.int .i64 r0); refine (toPool_any r0 r1 r2 _).mono ?_; rintro e wa7 ⟨rfl, hb7⟩)
      | (go_at_call 23; refine (flowI_any p0 p1 p2 r0 r1 r2 _ z x HA.out).mono ?_; rintro e w2 ⟨rfl, hb8⟩))
  have X6 := KD.out.1.trans (hb6.mono KD.out.1.size)
  have X7 := X6.trans (hb7.mono X6.size)
  have X8 := X7.trans (hb8.mono X7.size)
  have S2 := Lib.hid (S1.out.quiet X8)
  clear KEEP KD KT hb6 hb7 hb8 X6 X7 X8 S1
  have cc0 := (S2.out.cell (w.heap.size, 0, .int .i64 p0) (by simp)).2
  have cc1 := (S2.out.cell (w.heap.size, 1, .int .i64 p1) (by simp)).2
  have cc2 := (S2.out.cell (w.heap.size, 2, .int .i64 p2) (by simp)).2
  have cc3 := (S2.out.cell (w.heap.size + 1, 0, .int .i64 r0) (by simp)).2
  have cc4 := (S2.out.cell (w.heap.size + 1, 1, .int .i64 r1) (by simp)).2
  have cc5 := (S2.out.cell (w.heap.size + 1, 2, .int .i64 r2) (by simp)).2
  go_wp2_with fail
  go_ret
  exact ⟨rfl, S2.out.low⟩
theorem own : ownKnob Try.prog.godebug = none := by kernel_rfl
theorem laidOut : laidOutB Try.prog = true := by kernel_rfl

set_option maxRecDepth 100000 in
theorem lifted (os : Os) (started : os.Started) (H : Type) (enc : TypeId × Value → H) :
    ReturnsInHanded {} Try.checked os 8 .any (Rows.fnExactFlowBetweenSpec.pre6 enc Try.prog Try.f8 Rows.fnExactFlowBetweenRow.domain false) (Rows.fnExactFlowBetweenSpec.post enc Try.prog Try.f8 false true false false) := by
  refine returnsInHanded_of_change (C := Try.checked) own started (by kernel_rfl) Try.func8
    (ChangeSpec.witness6 (enc := enc) (C := Try.checked) false ⟨#[], #[.agg #[.int .i64 0, .int .i64 0, .int .i64 0], .agg #[.int .i64 0, .int .i64 0, .int .i64 0]], []⟩ 8 (by kernel_rfl) (by kernel_rfl) (by kernel_rfl) (by kernel_rfl)) ?_
  intro W base args ds gs before hval0 hW hcnd _
  have hval : ∀ (j : Nat) t v, Try.f8.params[j]? = some t → args[j]? = some v → Value.okWide Try.prog W .any base t v := hval0
  have hW' := hW
  obtain ⟨p, q, hA0, hV, rfl, hfz, hnd⟩ := hW
  have hA : DataW.TrodAll enc Try.prog W 0 (fun _ => true) true Try.f8.params.toList args.toList ds p := hA0
  rw [Try.params8] at hA hval
  obtain ⟨v0, vs0, d0, ds0, p0, q0, hargs, rfl, rfl, h0, r0⟩ := trodAll_cons hA
  obtain ⟨v1, vs1, d1, ds1, p1, q1, rfl, rfl, rfl, h1, r1⟩ := trodAll_cons r0
  obtain ⟨rfl, rfl, rfl⟩ := trodAll_nil r1
  obtain rfl : args = #[v0, v1] := by cases args; simp_all
  obtain ⟨rfl, rfl⟩ := trodVars_none hV
  have k0 := h0
  have lt0 : ∀ x ∈ p0, x.block < W.heap.size := by obtain ⟨m, hm⟩ := k0; exact DataW.trod_lt m _ _ _ hm
  obtain ⟨x0_0, x0_1, x0_2, rfl⟩ := open_Pool Try.underlying51 (by kernel_rfl) (by kernel_rfl) Try.underlying3 Try.underlying3 Try.underlying3 (hval 0 51 v0 rfl rfl) h0
  have k1 := h1
  have lt1 : ∀ x ∈ p1, x.block < W.heap.size := by obtain ⟨m, hm⟩ := k1; exact DataW.trod_lt m _ _ _ hm
  obtain ⟨x1_0, x1_1, x1_2, rfl⟩ := open_Pool Try.underlying51 (by kernel_rfl) (by kernel_rfl) Try.underlying3 Try.underlying3 Try.underlying3 (hval 1 51 v1 rfl rfl) h1
  clear hA0 hval0
  refine (walk x0_0 x0_1 x0_2 x1_0 x1_1 x1_2 W ).mono fun e W' ⟨he, bel⟩ => ?_
  subst he
  exact ⟨_, rfl, _, _, _, [], _, [], hW', trodAll_mk1 (shut_bool Try.underlying4 _), (trodAll_cons_mk (Below.trod laidOut (by kernel_rfl) (of_decide_eq_true (by kernel_rfl)) k0 bel lt0) (trodAll_cons_mk (Below.trod laidOut (by kernel_rfl) (of_decide_eq_true (by kernel_rfl)) k1 bel lt1) trodAll_mk0)), rfl, bel.frame _, fun h => by cases h⟩

theorem over : Rows.fnExactFlowBetweenRow.holds Try.pinned (OpenSpec.ofChange Rows.fnExactFlowBetweenSpec) :=
  OpenClaim.holds_of_wide 8 Try.f8 rfl rfl rfl rfl rfl rfl rfl ⟨rfl, rfl, rfl, rfl, rfl⟩ rfl rfl rfl rfl rfl (by kernel_rfl) Try.func8 (by kernel_rfl)
    (of_decide_eq_true (by kernel_rfl)) (by unfold Func.isWrapper; first | (rw [if_pos (by decide +kernel)]; kernel_rfl) | (rw [if_neg (by decide +kernel)]; exact ⟨rfl, rfl⟩))
    (fun os started H enc _ => lifted os started H enc)

/-- The statement. -/
theorem proved : Rows.FnExactFlowBetweenSaid := over
end Go.Proofs.Ytgnopkemcgbedaa.fnExactFlowBetween
