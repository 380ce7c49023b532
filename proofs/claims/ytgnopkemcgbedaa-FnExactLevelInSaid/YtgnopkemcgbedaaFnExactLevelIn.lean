/- LevelIn answers as its model does, at every Pool. -/
import Derived.Test.YtgnopkemcgbedaaPoB
import Derived.Test.YtgnopkemcgbedaaSt0
import Derived.OpenShut
import Derived.ShutString
import Derived.ChangeOld
import Derived.WalkLawsBesides
import Derived.Lib.SmallJoins
import Derived.Deep.RegionHeld3
namespace Go.Proofs.Ytgnopkemcgbedaa.fnExactLevelIn
open Go.ChangeShapes Go.WideShapes Go.ChangeAt Go.RowKit
open Go.ChangeMaps (open_string shut_string)
set_option linter.unusedVariables false
set_option linter.unusedSimpArgs false

abbrev ri (g n c : Nat) (xs : List Value) : RowOf := ⟨3, 1, .slice (some ⟨g, 0, none⟩) n c, n, xs⟩

set_option maxRecDepth 100000 in
set_option maxHeartbeats 4000000 in
theorem walk (p0 : Int) (p1 : Int) (p2 : Int) (w : World)   :
    Calls Try.prog 7 #[.agg #[.int .i64 p0, .int .i64 p1, .int .i64 p2]] w fun e w' => e = .returned (.bool true) ∧ Below w.heap.size w w' := by
  obtain ⟨y, z, x, hA⟩ := lvlA_ex ⟨p0, p1, p2⟩
  have HA := Lib.hid hA
  have hyy : (y != y) = false := by simp
  have hzz : (z != z) = false := by simp
  have hxx : (x != x) = false := by simp
  clear hA
  go_enter Try.func7, Try.ntmps7
  have S0 : Hid (St w [(w.heap.size, 0, .int .i64 p0), (w.heap.size, 1, .int .i64 p1), (w.heap.size, 2, .int .i64 p2)] [] (World.alloc w (.cells #[.int .i64 p0, .int .i64 p1, .int .i64 p2] 51))) := Lib.hid (by
    have k0 := ((St.start w)).quiet (Below.alloc (Below.refl _ w) (Nat.le_refl _) (.cells #[.int .i64 p0, .int .i64 p1, .int .i64 p2] 51))
    have j0 := k0.cells (ds := [(w.heap.size, 0, .int .i64 p0), (w.heap.size, 1, .int .i64 p1), (w.heap.size, 2, .int .i64 p2)]) (fun p hp => by
      simp only [List.mem_cons, List.not_mem_nil, or_false] at hp
      rcases hp with rfl | rfl | rfl
      · exact ⟨by omega, by rw [sNew]; rfl⟩
      · exact ⟨by omega, by rw [sNew]; rfl⟩
      · exact ⟨by omega, by rw [sNew]; rfl⟩)
    exact j0)
  have cc0 := (S0.out.cell (w.heap.size, 0, .int .i64 p0) (by simp)).2
  have cc1 := (S0.out.cell (w.heap.size, 1, .int .i64 p1) (by simp)).2
  have cc2 := (S0.out.cell (w.heap.size, 2, .int .i64 p2) (by simp)).2
  go_wp2_with fail
  refine (toPool_any p0 p1 p2 _).mono ?_
  rintro e w1 ⟨rfl, hb⟩
  have S1 := Lib.hid (S0.out.quiet hb)
  clear cc0 cc1 cc2
  clear hb S0
  have cc0 := (S1.out.cell (w.heap.size, 0, .int .i64 p0) (by simp)).2
  have cc1 := (S1.out.cell (w.heap.size, 1, .int .i64 p1) (by simp)).2
  have cc2 := (S1.out.cell (w.heap.size, 2, .int .i64 p2) (by simp)).2
  go_wp2_with fail
  refine (levelS_any p0 p1 p2 _ y z x HA.out).mono ?_
  rintro e w2 ⟨rfl, hb⟩
  have S2 := Lib.hid (S1.out.quiet hb)
  clear cc0 cc1 cc2
  clear hb S1
  have cc0 := (S2.out.cell (w.heap.size, 0, .int .i64 p0) (by simp)).2
  have cc1 := (S2.out.cell (w.heap.size, 1, .int .i64 p1) (by simp)).2
  have cc2 := (S2.out.cell (w.heap.size, 2, .int .i64 p2) (by simp)).2
  go_wp2_with fail
  refine (toPool_any p0 p1 p2 _).mono ?_
  rintro e w3 ⟨rfl, hb⟩
  have S3 := Lib.hid (S2.out.quiet hb)
  clear cc0 cc1 cc2
  clear hb S2
  have cc0 := (S3.out.cell (w.heap.size, 0, .int .i64 p0) (by simp)).2
  have cc1 := (S3.out.cell (w.heap.size, 1, .int .i64 p1) (by simp)).2
  have cc2 := (S3.out.cell (w.heap.size, 2, .int .i64 p2) (by simp)).2
  go_wp2_with fail
  refine (levelI_any p0 p1 p2 _ y z x HA.out).mono ?_
  rintro e w4 ⟨rfl, hb⟩
  have S4 := Lib.hid (S3.out.quiet hb)
  clear cc0 cc1 cc2
  clear hb S3
  have cc0 := (S4.out.cell (w.heap.size, 0, .int .i64 p0) (by simp)).2
  have cc1 := (S4.out.cell (w.heap.size, 1, .int .i64 p1) (by simp)).2
  have cc2 := (S4.out.cell (w.heap.size, 2, .int .i64 p2) (by simp)).2
  go_wp2_with fail
  go_ret
  exact ⟨rfl, S4.out.low⟩
theorem own : ownKnob Try.prog.godebug = none := by kernel_rfl
theorem laidOut : laidOutB Try.prog = true := by kernel_rfl

set_option maxRecDepth 100000 in
theorem lifted (os : Os) (started : os.Started) (H : Type) (enc : TypeId × Value → H) :
    ReturnsInHanded {} Try.checked os 7 .any (Rows.fnExactLevelInSpec.pre6 enc Try.prog Try.f7 Rows.fnExactLevelInRow.domain false) (Rows.fnExactLevelInSpec.post enc Try.prog Try.f7 false true false false) := by
  refine returnsInHanded_of_change (C := Try.checked) own started (by kernel_rfl) Try.func7
    (ChangeSpec.witness6 (enc := enc) (C := Try.checked) false ⟨#[], #[.agg #[.int .i64 0, .int .i64 0, .int .i64 0]], []⟩ 8 (by kernel_rfl) (by kernel_rfl) (by kernel_rfl) (by kernel_rfl)) ?_
  intro W base args ds gs before hval0 hW hcnd _
  have hval : ∀ (j : Nat) t v, Try.f7.params[j]? = some t → args[j]? = some v → Value.okWide Try.prog W .any base t v := hval0
  have hW' := hW
  obtain ⟨p, q, hA0, hV, rfl, hfz, hnd⟩ := hW
  have hA : DataW.TrodAll enc Try.prog W 0 (fun _ => true) true Try.f7.params.toList args.toList ds p := hA0
  rw [Try.params7] at hA hval
  obtain ⟨v0, vs0, d0, ds0, p0, q0, hargs, rfl, rfl, h0, r0⟩ := trodAll_cons hA
  obtain ⟨rfl, rfl, rfl⟩ := trodAll_nil r0
  obtain rfl : args = #[v0] := by cases args; simp_all
  obtain ⟨rfl, rfl⟩ := trodVars_none hV
  have k0 := h0
  have lt0 : ∀ x ∈ p0, x.block < W.heap.size := by obtain ⟨m, hm⟩ := k0; exact DataW.trod_lt m _ _ _ hm
  obtain ⟨x0_0, x0_1, x0_2, rfl⟩ := open_Pool Try.underlying51 (by kernel_rfl) (by kernel_rfl) Try.underlying3 Try.underlying3 Try.underlying3 (hval 0 51 v0 rfl rfl) h0
  clear hA0 hval0
  refine (walk x0_0 x0_1 x0_2 W ).mono fun e W' ⟨he, bel⟩ => ?_
  subst he
  exact ⟨_, rfl, _, _, _, [], _, [], hW', trodAll_mk1 (shut_bool Try.underlying4 _), (trodAll_cons_mk (Below.trod laidOut (by kernel_rfl) (of_decide_eq_true (by kernel_rfl)) k0 bel lt0) trodAll_mk0), rfl, bel.frame _, fun h => by cases h⟩

theorem over : Rows.fnExactLevelInRow.holds Try.pinned (OpenSpec.ofChange Rows.fnExactLevelInSpec) :=
  OpenClaim.holds_of_wide 7 Try.f7 rfl rfl rfl rfl rfl rfl rfl ⟨rfl, rfl, rfl, rfl, rfl⟩ rfl rfl rfl rfl rfl (by kernel_rfl) Try.func7 (by kernel_rfl)
    (of_decide_eq_true (by kernel_rfl)) (by unfold Func.isWrapper; first | (rw [if_pos (by decide +kernel)]; kernel_rfl) | (rw [if_neg (by decide +kernel)]; exact ⟨rfl, rfl⟩))
    (fun os started H enc _ => lifted os started H enc)

/-- The statement. -/
theorem proved : Rows.FnExactLevelInSaid := over
end Go.Proofs.Ytgnopkemcgbedaa.fnExactLevelIn
