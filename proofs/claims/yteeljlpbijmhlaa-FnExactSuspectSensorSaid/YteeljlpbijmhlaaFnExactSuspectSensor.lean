/- SuspectSensor answers as its model does, at every list of lists of integers and every number, and writes into no argument. -/
import Derived.Test.YteeljlpbijmhlaaSeSI
import Derived.Test.YteeljlpbijmhlaaSt0
import Derived.OpenShut
import Derived.ShutString
import Derived.ChangeOld
import Derived.WalkLawsBesides
import Derived.Lib.SmallJoins
import Derived.Deep.RegionHeld3
namespace Go.Proofs.Yteeljlpbijmhlaa.fnExactSuspectSensor
open Go.ChangeShapes Go.WideShapes Go.ChangeAt Go.RowKit
open Go.ChangeMaps (open_string shut_string)
set_option linter.unusedVariables false
set_option linter.unusedSimpArgs false

set_option maxRecDepth 100000 in
set_option maxHeartbeats 4000000 in
theorem walk (A : Option Addr) (n c : Nat) (vs : List TSl) (q : Int) (w : World) (hI : IsSls w w.heap.size A n vs) (hm : n ≤ maxLen) (kq : (Lit.int .i64 q).wf = true) :
    Calls Try.prog 6 #[.slice A n c, .int .i64 q] w fun e w' => e = .returned (.bool true) ∧ Below w.heap.size w w' := by
  obtain ⟨m, x, hA⟩ := susA_ex (tss vs) q
  have HA := Lib.hid hA
  have hmm : (m != m) = false := by simp
  have hxx : (x != x) = false := by simp
  have HI := Lib.hid hI
  have CZ := Lib.hid (szSS_any c hI hm 1048576 (by omega) (by omega))
  have HM := Lib.hid hm
  clear hA hI hm
  go_enter Try.func6, Try.ntmps6
  go_wp2_with fail
  refine CZ.out.mono ?_
  rintro e w1 ⟨v, rfl, hz, rfl⟩
  have HZ := Lib.hid hz
  clear CZ hz
  by_cases hv : v < 0
  · go_wp2_with fail
    go_ret
    exact ⟨rfl, Below.refl _ _⟩
  · have HN : Hid (n ≤ 1048576 ∧ ∀ k, k < n → (vs.getD k noSl).n ≤ 1048576) := Lib.hid (by
      obtain ⟨h1, h2⟩ := HZ.out (by omega)
      exact ⟨by omega, fun k hk => by have := h2 k hk; omega⟩)
    have HCP := Lib.hid (fun (W : World) (hW : Below w.heap.size w W) => toSS_any c (HI.out.below hW (Nat.le_refl _)) HN.out.1 HN.out.2)
    have HSZ : Hid (∀ (us : List TSl) W g, IsSls W W.heap.size g n us → tss us = tss vs → ∀ k, k < n → (us.getD k noSl).n ≤ 1048576) := Lib.hid (fun us W g h ht k hk => by
      have h1 : k < us.length := by rw [h.len]; exact hk
      have h2 : k < vs.length := by rw [HI.out.len]; exact hk
      have e : (us.getD k noSl).zs = (vs.getD k noSl).zs := by rw [← tss_at h1, ← tss_at h2]; simp only [ht]
      rw [← (h.each k hk).1, e, (HI.out.each k hk).1]
      exact HN.out.2 k hk)
    clear HZ
    have HB0 := Lib.hid (Below.refl w.heap.size w)
    go_wp2_with fail
    refine (HCP.out _ HB0.out).mono ?_
    rintro e w2 ⟨g1, u1, rfl, hs1, ht1, hb1⟩
    have HB1 := Lib.hid (HB0.out.trans (hb1.mono HB0.out.size))
    have C1 := Lib.hid (susS_any n hs1 HN.out.1 (HSZ.out _ _ _ hs1 ht1) q m x (by rw [ht1]; exact HA.out))
    clear hs1 ht1 hb1 HB0
    go_wp2_with fail
    refine C1.out.mono ?_
    rintro e w3 ⟨rfl, hb3⟩
    have HB3 := Lib.hid (HB1.out.trans (hb3.mono HB1.out.size))
    clear hb3 C1 HB1
    go_wp2_with fail
    refine (HCP.out _ HB3.out).mono ?_
    rintro e w4 ⟨g2, u2, rfl, hs2, ht2, hb4⟩
    have HB4 := Lib.hid (HB3.out.trans (hb4.mono HB3.out.size))
    have HS2 := Lib.hid hs2
    have HT2 := Lib.hid ht2
    have C2 := Lib.hid (susI_any n hs2 HN.out.1 (HSZ.out _ _ _ hs2 ht2) q m x (by rw [ht2]; exact HA.out))
    clear hs2 ht2 hb4 HB3
    go_wp2_with fail
    refine C2.out.mono ?_
    rintro e w5 ⟨rfl, hb5⟩
    have HB5 := Lib.hid (HB4.out.trans (hb5.mono HB4.out.size))
    have HS5 := Lib.hid (HS2.out.below hb5 (Nat.le_refl _))
    clear hb5 C2 HB4 HS2
    go_wp2_with fail
    refine (HCP.out _ HB5.out).mono ?_
    rintro e w6 ⟨g3, u3, rfl, hs3, ht3, hb6⟩
    have HB6 := Lib.hid (HB5.out.trans (hb6.mono HB5.out.size))
    have HS6 : Hid (∃ B, IsSls w6 B (some ⟨g2, 0, none⟩) n u2) := Lib.hid ⟨_, HS5.out.below hb6 HS5.out.low⟩
    obtain ⟨B6, hs6⟩ := HS6.out
    have C3 := Lib.hid (eqSS_same n n hs6 hs3 (by rw [ht3, HT2.out]) HN.out.1)
    clear hs3 ht3 hb6 hs6 HS6 HS5 HB5
    go_wp2_with fail
    refine C3.out.mono ?_
    rintro e w7 ⟨rfl, hb7⟩
    have HB7 := Lib.hid (HB6.out.trans (hb7.mono HB6.out.size))
    clear hb7 C3
    go_wp2_with fail
    go_ret
    exact ⟨rfl, HB7.out⟩
theorem own : ownKnob Try.prog.godebug = none := by kernel_rfl
theorem laidOut : laidOutB Try.prog = true := by kernel_rfl

set_option maxRecDepth 100000 in
theorem lifted (os : Os) (started : os.Started) (H : Type) (enc : TypeId × Value → H) :
    ReturnsInHanded {} Try.checked os 6 .any (Rows.fnExactSuspectSensorSpec.pre6 enc Try.prog Try.f6 Rows.fnExactSuspectSensorRow.domain false) (Rows.fnExactSuspectSensorSpec.post enc Try.prog Try.f6 false true false false) := by
  refine returnsInHanded_of_change (C := Try.checked) own started (by kernel_rfl) Try.func6
    (ChangeSpec.witness6 (enc := enc) (C := Try.checked) false ⟨#[], #[.slice none 0 0, .int .i64 0], []⟩ 8 (by kernel_rfl) (by kernel_rfl) (by kernel_rfl) (by kernel_rfl)) ?_
  intro W base args ds gs before hval0 hW hcnd _
  have hval : ∀ (j : Nat) t v, Try.f6.params[j]? = some t → args[j]? = some v → Value.okWide Try.prog W .any base t v := hval0
  have hW' := hW
  obtain ⟨p, q, hA0, hV, rfl, hfz, hnd⟩ := hW
  have hA : DataW.TrodAll enc Try.prog W 0 (fun _ => true) true Try.f6.params.toList args.toList ds p := hA0
  rw [Try.params6] at hA hval
  obtain ⟨v0, vs0, d0, ds0, p0, q0, hargs, rfl, rfl, h0, r0⟩ := trodAll_cons hA
  obtain ⟨v1, vs1, d1, ds1, p1, q1, rfl, rfl, rfl, h1, r1⟩ := trodAll_cons r0
  obtain ⟨rfl, rfl, rfl⟩ := trodAll_nil r1
  obtain rfl : args = #[v0, v1] := by cases args; simp_all
  obtain ⟨rfl, rfl⟩ := trodVars_none hV
  obtain ⟨a0, len0, cap0, rfl⟩ := okWide_slice Try.underlying33 (hval 0 33 v0 rfl rfl)
  have k0 := h0
  have lt0 : ∀ x ∈ p0, x.block < W.heap.size := by obtain ⟨m, hm⟩ := k0; exact DataW.trod_lt m _ _ _ hm
  obtain ⟨z0, w0, m0⟩ : ∃ vs, IsSls W W.heap.size a0 len0 vs ∧ len0 ≤ maxLen := by
    obtain ⟨fuel, hf⟩ := h0
    obtain ⟨A, l, c, vs, hcs, hl, hv⟩ := open_intss Try.underlying33 Try.underlying22 (by kernel_rfl) Try.underlying3 (by kernel_rfl) hf
    simp [Value.cells] at hcs
    obtain ⟨rfl, rfl, rfl⟩ := hcs
    exact ⟨vs, hv, hl⟩
  obtain ⟨a1, rfl, rfl, rfl, w1⟩ := open_int Try.underlying3 (hval 1 3 v1 rfl rfl) h1
  clear hA0 hval0
  refine (walk a0 len0 cap0 z0 a1 W w0 m0 w1).mono fun e W' ⟨he, bel⟩ => ?_
  subst he
  exact ⟨_, rfl, _, _, _, [], _, [], hW', trodAll_mk1 (shut_bool Try.underlying4 _), (trodAll_cons_mk (Below.trod laidOut (by kernel_rfl) (of_decide_eq_true (by kernel_rfl)) k0 bel lt0) (trodAll_cons_mk (shut_int Try.underlying3 w1) trodAll_mk0)), rfl, bel.frame _, fun h => by cases h⟩

theorem over : Rows.fnExactSuspectSensorRow.holds Try.pinned (OpenSpec.ofChange Rows.fnExactSuspectSensorSpec) :=
  OpenClaim.holds_of_wide 6 Try.f6 rfl rfl rfl rfl rfl rfl rfl ⟨rfl, rfl, rfl, rfl, rfl⟩ rfl rfl rfl rfl rfl (by kernel_rfl) Try.func6 (by kernel_rfl)
    (of_decide_eq_true (by kernel_rfl)) (by unfold Func.isWrapper; first | (rw [if_pos (by decide +kernel)]; kernel_rfl) | (rw [if_neg (by decide +kernel)]; exact ⟨rfl, rfl⟩))
    (fun os started H enc _ => lifted os started H enc)

/-- The statement. -/
theorem proved : Rows.FnExactSuspectSensorSaid := over
end Go.Proofs.Yteeljlpbijmhlaa.fnExactSuspectSensor
