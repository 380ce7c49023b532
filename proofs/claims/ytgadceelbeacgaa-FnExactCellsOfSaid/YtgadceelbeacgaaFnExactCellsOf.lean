/- CellsOf answers as its model does, at every list of vessels, and writes into no argument. -/
import Derived.Test.YtgadceelbeacgaaVesCel
import Derived.OpenShut
import Derived.ShutString
import Derived.ChangeOld
import Derived.WalkLawsBesides
import Derived.Lib.SmallJoins
namespace Go.Proofs.Ytgadceelbeacgaa.fnExactCellsOf
open Go.ChangeShapes Go.WideShapes Go.ChangeAt Go.RowKit
open Go.ChangeMaps (open_string shut_string)
set_option linter.unusedVariables false

set_option maxHeartbeats 1000000 in
theorem walk (A : Option Addr) (n c : Nat) (vs : List Ves) (w : World) (hn : vs.length = n) (hm : n ≤ maxLen) (hs : ∀ v ∈ vs, v.name.size ≤ maxLen) (h : Has w w.heap.size A (flatV vs)) :
    Calls Try.prog 9 #[.slice A n c] w fun e w' => e = .returned (.bool true) ∧ Below w.heap.size w w' := by
  have hv : IsVs w w.heap.size A n vs := ⟨hn, Nat.le_refl _, h, hs⟩
  obtain ⟨left, l0, l1, lf, hz⟩ := szVS_vs (c := c) w hv hm 1048576 (by omega) (by omega)
  have SZ := Lib.hid hz
  have IV := Lib.hid (fun W (hb : Below w.heap.size w W) => hv.below hb (Nat.le_refl _))
  have HM := Lib.hid hm
  have HF := Lib.hid (fun h : 0 ≤ left => (by have := lf h; omega : n ≤ 1048576))
  obtain ⟨x, v, hx, hy, hno⟩ := cells_two vs n
  have HX := Lib.hid hx
  have HY := Lib.hid hy
  have HN := Lib.hid hno
  have hxx : (x != x) = false := by simp
  have hvv : (v != v) = false := by simp
  clear hn hm hs h hv hz lf hx hy hno
  go_enter Try.func9, Try.ntmps9
  go_wp2_with fail
  refine (SZ.out _ (Below.refl _ _)).mono ?_
  rintro e w1 ⟨rfl, hb⟩
  have B1 := Lib.hid hb
  clear hb SZ
  by_cases hneg : left < 0
  · go_wp2_with fail
    go_ret
    exact ⟨rfl, B1.out⟩
  · have hn1 := Lib.hid (HF.out (by omega))
    go_wp2_with fail
    refine (toVS_vs c (IV.out _ B1.out) hn1.out).mono ?_
    rintro e w2 ⟨g, rfl, -, i2, hb⟩
    have I2 := Lib.hid i2
    have B2 := Lib.hid (B1.out.trans (hb.mono B1.out.size))
    clear hb i2
    go_wp2_with fail
    refine (specCells_any n I2.out HM.out x HX.out v HY.out HN.out).mono ?_
    rintro e w3 ⟨rfl, hb⟩
    have B3 := Lib.hid (B2.out.trans (hb.mono B2.out.size))
    clear hb
    go_wp2_with fail
    refine (toVS_vs c (IV.out _ B3.out) hn1.out).mono ?_
    rintro e w4 ⟨g2, rfl, -, i4, hb⟩
    have I4 := Lib.hid i4
    have B4 := Lib.hid (B3.out.trans (hb.mono B3.out.size))
    clear hb i4
    go_wp2_with fail
    refine (implCells_any n I4.out HM.out (Nat.le_refl _) x HX.out v HY.out HN.out).mono ?_
    rintro e w5 ⟨rfl, hb⟩
    have I5 := Lib.hid (I4.out.below hb (Nat.le_refl _))
    have B5 := Lib.hid (B4.out.trans (hb.mono B4.out.size))
    clear hb
    go_wp2_with fail
    refine (toVS_vs c (IV.out _ B5.out) hn1.out).mono ?_
    rintro e w6 ⟨g3, rfl, -, i6, hb⟩
    have I6 := Lib.hid i6
    have I7 := Lib.hid (I5.out.all.below hb (Nat.le_refl _))
    have B6 := Lib.hid (B5.out.trans (hb.mono B5.out.size))
    clear hb i6
    go_wp2_with fail
    refine (eqVS_vs n n I7.out I6.out HM.out).mono ?_
    rintro e w7 ⟨rfl, hb⟩
    have B7 := Lib.hid (B6.out.trans (hb.mono B6.out.size))
    clear hb
    go_wp2_with fail
    go_ret
    exact ⟨rfl, B7.out⟩
theorem own : ownKnob Try.prog.godebug = none := by kernel_rfl
theorem laidOut : laidOutB Try.prog = true := by kernel_rfl

set_option maxRecDepth 100000 in
theorem lifted (os : Os) (started : os.Started) (H : Type) (enc : TypeId × Value → H) :
    ReturnsInHanded {} Try.checked os 9 .any (Rows.fnExactCellsOfSpec.pre6 enc Try.prog Try.f9 Rows.fnExactCellsOfRow.domain false) (Rows.fnExactCellsOfSpec.post enc Try.prog Try.f9 false true false false) := by
  refine returnsInHanded_of_change (C := Try.checked) own started (by kernel_rfl) Try.func9
    (ChangeSpec.witness6 (enc := enc) (C := Try.checked) false ⟨#[], #[.slice none 0 0], []⟩ 8 (by kernel_rfl) (by kernel_rfl) (by kernel_rfl) (by kernel_rfl)) ?_
  intro W base args ds gs before hval0 hW hcnd _
  have hval : ∀ (j : Nat) t v, Try.f9.params[j]? = some t → args[j]? = some v → Value.okWide Try.prog W .any base t v := hval0
  have hW' := hW
  obtain ⟨p, q, hA0, hV, rfl, hfz, hnd⟩ := hW
  have hA : DataW.TrodAll enc Try.prog W 0 (fun _ => true) true Try.f9.params.toList args.toList ds p := hA0
  rw [Try.params9] at hA hval
  obtain ⟨v0, vs0, d0, ds0, p0, q0, hargs, rfl, rfl, h0, r0⟩ := trodAll_cons hA
  obtain ⟨rfl, rfl, rfl⟩ := trodAll_nil r0
  obtain rfl : args = #[v0] := by cases args; simp_all
  obtain ⟨rfl, rfl⟩ := trodVars_none hV
  have k0 := h0
  have lt0 : ∀ x ∈ p0, x.block < W.heap.size := by obtain ⟨m, hm⟩ := k0; exact DataW.trod_lt m _ _ _ hm
  obtain ⟨a0, len0, cap0, rfl⟩ := okWide_slice Try.underlying60 (hval 0 60 v0 rfl rfl)
  obtain ⟨z0, wl0, wm0, wz0, wh0⟩ : ∃ vs : List Ves, vs.length = len0 ∧ len0 ≤ maxLen ∧ (∀ v ∈ vs, v.name.size ≤ maxLen) ∧ Has W W.heap.size a0 (flatV vs) := by
    obtain ⟨fuel, hf⟩ := h0
    obtain ⟨A, l, c, vs, hcs, h1, h2, h3, h4⟩ := open_vess Try.underlying60 Try.underlying55 (by kernel_rfl) (by kernel_rfl) Try.underlying3 Try.underlying9 Try.underlying3 Try.underlying3 Try.underlying3 Try.underlying3 hf
    simp [Value.cells] at hcs
    obtain ⟨rfl, rfl, rfl⟩ := hcs
    exact ⟨vs, h1, h2, h3, h4⟩
  clear hA0 hval0
  refine (walk a0 len0 cap0 z0 W wl0 wm0 wz0 wh0).mono fun e W' ⟨he, bel⟩ => ?_
  subst he
  exact ⟨_, rfl, _, _, _, [], _, [], hW', trodAll_mk1 (shut_bool Try.underlying4 _), (trodAll_cons_mk (Below.trod laidOut (by kernel_rfl) (of_decide_eq_true (by kernel_rfl)) k0 bel lt0) trodAll_mk0), rfl, bel.frame _, fun h => by cases h⟩

theorem over : Rows.fnExactCellsOfRow.holds Try.pinned (OpenSpec.ofChange Rows.fnExactCellsOfSpec) :=
  OpenClaim.holds_of_wide 9 Try.f9 rfl rfl rfl rfl rfl rfl rfl ⟨rfl, rfl, rfl, rfl, rfl⟩ rfl rfl rfl rfl rfl (by kernel_rfl) Try.func9 (by kernel_rfl)
    (of_decide_eq_true (by kernel_rfl)) (by unfold Func.isWrapper; first | (rw [if_pos (by decide +kernel)]; kernel_rfl) | (rw [if_neg (by decide +kernel)]; exact ⟨rfl, rfl⟩))
    (fun os started H enc _ => lifted os started H enc)

/-- The statement. -/
theorem proved : Rows.FnExactCellsOfSaid := over
end Go.Proofs.Ytgadceelbeacgaa.fnExactCellsOf
