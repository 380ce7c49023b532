/- VesselNamed answers as its model does, at every list of vessels and name, and writes into no argument. -/
import Derived.Test.YtgadceelbeacgaaVesNam
import Derived.OpenShut
import Derived.ShutString
import Derived.ChangeOld
import Derived.WalkLawsBesides
import Derived.Lib.SmallJoins
namespace Go.Proofs.Ytgadceelbeacgaa.fnExactVesselNamed
open Go.ChangeShapes Go.WideShapes Go.ChangeAt Go.RowKit
open Go.ChangeMaps (open_string shut_string)
set_option linter.unusedVariables false

set_option maxHeartbeats 1000000 in
theorem walk (A : Option Addr) (n c : Nat) (vs : List Ves) (t : ByteArray) (w : World) (hn : vs.length = n) (hm : n ≤ maxLen) (hs : ∀ v ∈ vs, v.name.size ≤ maxLen) (h : Has w w.heap.size A (flatV vs)) (ht : t.size ≤ maxLen) :
    Calls Try.prog 8 #[.slice A n c, .string t] w fun e w' => e = .returned (.bool true) ∧ Below w.heap.size w w' := by
  have hv : IsVs w w.heap.size A n vs := ⟨hn, Nat.le_refl _, h, hs⟩
  obtain ⟨left, l0, l1, lf, hz⟩ := szVS_vs (c := c) w hv hm 1048576 (by omega) (by omega)
  have SZ := Lib.hid hz
  have IV := Lib.hid (fun W (hb : Below w.heap.size w W) => hv.below hb (Nat.le_refl _))
  have HM := Lib.hid hm
  have HF := Lib.hid (fun h : 0 ≤ left => (by have := lf h; omega : n ≤ 1048576))
  obtain ⟨i, s, l, b, d, q, x, hy, hno, hbad⟩ := named_two vs n t
  have HY := Lib.hid hy
  have HN := Lib.hid hno
  have HBAD := Lib.hid hbad
  have hxx : (x != x) = false := by simp
  have EQ := Lib.hid (fun W => eqV_same i s l b d q W)
  -- a vessel laid at the end of a world, in every later world
  have BX : Hid (∀ (W0 W : World), Below (W0.heap.size + 1) (W0.alloc (.cells #[.int .i64 i, .string s, .int .i64 l, .int .i64 b, .int .i64 d, .int .i64 q] 53)) W → W.cell? ⟨W0.heap.size, 0, none⟩ = some (.int .i64 i) ∧ W.cell? ⟨W0.heap.size, 1, none⟩ = some (.string s) ∧ W.cell? ⟨W0.heap.size, 2, none⟩ = some (.int .i64 l) ∧ W.cell? ⟨W0.heap.size, 3, none⟩ = some (.int .i64 b) ∧ W.cell? ⟨W0.heap.size, 4, none⟩ = some (.int .i64 d) ∧ W.cell? ⟨W0.heap.size, 5, none⟩ = some (.int .i64 q) ∧ W0.heap.size + 1 ≤ W.heap.size) := Lib.hid (fun W0 W hb =>
    ⟨(hb.cell (by simp)).trans (by rw [vNew]; rfl), (hb.cell (by simp)).trans (by rw [vNew]; rfl), (hb.cell (by simp)).trans (by rw [vNew]; rfl), (hb.cell (by simp)).trans (by rw [vNew]; rfl), (hb.cell (by simp)).trans (by rw [vNew]; rfl), (hb.cell (by simp)).trans (by rw [vNew]; rfl), by have := hb.size; simpa using this⟩)
  have ht' : (t.size : Int) ≤ 9223372036854775807 := by unfold maxLen at ht; omega
  clear hn hm hs h hv hz lf hy hno hbad ht
  by_cases htl : (1048576 : Int) < (t.size : Int)
  · clear SZ IV HF HY HN HBAD EQ BX
    go_enter Try.func8, Try.ntmps8
    go_wp2_with fail
    go_ret
    exact ⟨rfl, Below.refl _ _⟩
  go_enter Try.func8, Try.ntmps8
  go_wp2_with fail
  refine (SZ.out _ (Below.refl _ _)).mono ?_
  rintro e w1 ⟨rfl, hb⟩
  have B1 := Lib.hid hb
  clear hb SZ
  by_cases hneg : left < 0
  · go_wp2_with fail
    go_ret
    exact ⟨rfl, B1.out⟩
  · have hn1 := Lib.hid (HF.out (by omega))
    go_wp2_with fail
    refine (toVS_vs c (IV.out _ B1.out) hn1.out).mono ?_
    rintro e w2 ⟨g, rfl, -, i2, hb⟩
    have I2 := Lib.hid i2
    have B2 := Lib.hid (B1.out.trans (hb.mono B1.out.size))
    clear hb i2
    go_wp2_with fail
    refine (specNamed_any n t I2.out HM.out i s l b d q x HY.out HN.out HBAD.out).mono ?_
    rintro e w3 ⟨rfl, hb⟩
    have B3 := Lib.hid (B2.out.trans (hb.mono B2.out.size))
    clear hb
    go_wp2_with fail
    have B3a := Lib.hid (B3.out.alloc B3.out.size (.cells #[.int .i64 i, .string s, .int .i64 l, .int .i64 b, .int .i64 d, .int .i64 q] 53))
    have X3a := Lib.hid (Below.refl (w3.heap.size + 1) (w3.alloc (.cells #[.int .i64 i, .string s, .int .i64 l, .int .i64 b, .int .i64 d, .int .i64 q] 53)))
    refine (toVS_vs c (IV.out _ B3a.out) hn1.out).mono ?_
    rintro e w4 ⟨g2, rfl, -, i4, hb⟩
    have I4 := Lib.hid i4
    have B4 := Lib.hid (B3a.out.trans (hb.mono B3a.out.size))
    have X4 := Lib.hid (X3a.out.trans (hb.mono (by simp)))
    clear hb i4
    go_wp2_with fail
    refine (implNamed_any n t I4.out HM.out (Nat.le_refl _) i s l b d q x HY.out HN.out HBAD.out).mono ?_
    rintro e w5 ⟨rfl, hb⟩
    have I5 := Lib.hid (I4.out.below hb (Nat.le_refl _))
    have B5 := Lib.hid (B4.out.trans (hb.mono B4.out.size))
    have X5 := Lib.hid (X4.out.trans (hb.mono (BX.out _ _ X4.out).2.2.2.2.2.2))
    have X6 := Lib.hid (X5.out.alloc (BX.out _ _ X5.out).2.2.2.2.2.2 (.cells #[.int .i64 i, .string s, .int .i64 l, .int .i64 b, .int .i64 d, .int .i64 q] 53))
    have I6 := Lib.hid (I5.out.all.below ((Below.refl _ w5).alloc (Nat.le_refl _) (.cells #[.int .i64 i, .string s, .int .i64 l, .int .i64 b, .int .i64 d, .int .i64 q] 53)) (Nat.le_refl _))
    have B6 := Lib.hid (B5.out.alloc B5.out.size (.cells #[.int .i64 i, .string s, .int .i64 l, .int .i64 b, .int .i64 d, .int .i64 q] 53))
    clear hb
    obtain ⟨c0, c1, c2, c3, c4, c5, -⟩ := BX.out _ _ X6.out
    go_wp2_with fail
    refine (EQ.out _).mono ?_
    rintro e w7 ⟨rfl, hb⟩
    have B7 := Lib.hid (B6.out.trans (hb.mono B6.out.size))
    have I7 := Lib.hid (I6.out.all.below hb (Nat.le_refl _))
    clear hb c0 c1 c2 c3 c4 c5
    go_wp2_with fail
    refine (toVS_vs c (IV.out _ B7.out) hn1.out).mono ?_
    rintro e w8 ⟨g3, rfl, -, i8, hb⟩
    have I8 := Lib.hid i8
    have I9 := Lib.hid (I7.out.all.below hb (Nat.le_refl _))
    have B8 := Lib.hid (B7.out.trans (hb.mono B7.out.size))
    clear hb i8
    go_wp2_with fail
    refine (eqVS_vs n n I9.out I8.out HM.out).mono ?_
    rintro e w9 ⟨rfl, hb⟩
    have B9 := Lib.hid (B8.out.trans (hb.mono B8.out.size))
    clear hb
    go_wp2_with fail
    go_ret
    exact ⟨rfl, B9.out⟩
theorem own : ownKnob Try.prog.godebug = none := by kernel_rfl
theorem laidOut : laidOutB Try.prog = true := by kernel_rfl

set_option maxRecDepth 100000 in
theorem lifted (os : Os) (started : os.Started) (H : Type) (enc : TypeId × Value → H) :
    ReturnsInHanded {} Try.checked os 8 .any (Rows.fnExactVesselNamedSpec.pre6 enc Try.prog Try.f8 Rows.fnExactVesselNamedRow.domain false) (Rows.fnExactVesselNamedSpec.post enc Try.prog Try.f8 false true false false) := by
  refine returnsInHanded_of_change (C := Try.checked) own started (by kernel_rfl) Try.func8
    (ChangeSpec.witness6 (enc := enc) (C := Try.checked) false ⟨#[], #[.slice none 0 0, .string ByteArray.empty], []⟩ 8 (by kernel_rfl) (by kernel_rfl) (by kernel_rfl) (by kernel_rfl)) ?_
  intro W base args ds gs before hval0 hW hcnd _
  have hval : ∀ (j : Nat) t v, Try.f8.params[j]? = some t → args[j]? = some v → Value.okWide Try.prog W .any base t v := hval0
  have hW' := hW
  obtain ⟨p, q, hA0, hV, rfl, hfz, hnd⟩ := hW
  have hA : DataW.TrodAll enc Try.prog W 0 (fun _ => true) true Try.f8.params.toList args.toList ds p := hA0
  rw [Try.params8] at hA hval
  obtain ⟨v0, vs0, d0, ds0, p0, q0, hargs, rfl, rfl, h0, r0⟩ := trodAll_cons hA
  obtain ⟨v1, vs1, d1, ds1, p1, q1, rfl, rfl, rfl, h1, r1⟩ := trodAll_cons r0
  obtain ⟨rfl, rfl, rfl⟩ := trodAll_nil r1
  obtain rfl : args = #[v0, v1] := by cases args; simp_all
  obtain ⟨rfl, rfl⟩ := trodVars_none hV
  have k0 := h0
  have lt0 : ∀ x ∈ p0, x.block < W.heap.size := by obtain ⟨m, hm⟩ := k0; exact DataW.trod_lt m _ _ _ hm
  obtain ⟨a0, len0, cap0, rfl⟩ := okWide_slice Try.underlying60 (hval 0 60 v0 rfl rfl)
  obtain ⟨z0, wl0, wm0, wz0, wh0⟩ : ∃ vs : List Ves, vs.length = len0 ∧ len0 ≤ maxLen ∧ (∀ v ∈ vs, v.name.size ≤ maxLen) ∧ Has W W.heap.size a0 (flatV vs) := by
    obtain ⟨fuel, hf⟩ := h0
    obtain ⟨A, l, c, vs, hcs, h1, h2, h3, h4⟩ := open_vess Try.underlying60 Try.underlying55 (by kernel_rfl) (by kernel_rfl) Try.underlying3 Try.underlying9 Try.underlying3 Try.underlying3 Try.underlying3 Try.underlying3 hf
    simp [Value.cells] at hcs
    obtain ⟨rfl, rfl, rfl⟩ := hcs
    exact ⟨vs, h1, h2, h3, h4⟩
  obtain ⟨a1, rfl, rfl, rfl, w1⟩ := open_string Try.underlying9 (hval 1 9 v1 rfl rfl) h1
  clear hA0 hval0
  refine (walk a0 len0 cap0 z0 a1 W wl0 wm0 wz0 wh0 w1).mono fun e W' ⟨he, bel⟩ => ?_
  subst he
  exact ⟨_, rfl, _, _, _, [], _, [], hW', trodAll_mk1 (shut_bool Try.underlying4 _), (trodAll_cons_mk (Below.trod laidOut (by kernel_rfl) (of_decide_eq_true (by kernel_rfl)) k0 bel lt0) (trodAll_cons_mk (shut_string Try.underlying9 w1) trodAll_mk0)), rfl, bel.frame _, fun h => by cases h⟩

theorem over : Rows.fnExactVesselNamedRow.holds Try.pinned (OpenSpec.ofChange Rows.fnExactVesselNamedSpec) :=
  OpenClaim.holds_of_wide 8 Try.f8 rfl rfl rfl rfl rfl rfl rfl ⟨rfl, rfl, rfl, rfl, rfl⟩ rfl rfl rfl rfl rfl (by kernel_rfl) Try.func8 (by kernel_rfl)
    (of_decide_eq_true (by kernel_rfl)) (by unfold Func.isWrapper; first | (rw [if_pos (by decide +kernel)]; kernel_rfl) | (rw [if_neg (by decide +kernel)]; exact ⟨rfl, rfl⟩))
    (fun os started H enc _ => lifted os started H enc)

/-- The statement. -/
theorem proved : Rows.FnExactVesselNamedSaid := over
end Go.Proofs.Ytgadceelbeacgaa.fnExactVesselNamed
