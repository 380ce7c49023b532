/- What is proved: laws.FnExactJoinStrings, called with any slice of strings and any string, returns true and leaves the slice as it was: the program's JoinStrings answers as the reference model's. No condition. -/
import Derived.Test.YtcbdifmnbolgpaaJoin
import Derived.OpenShut
import Derived.ShutString
import Derived.ChangeOld
import Derived.SliceStrings
namespace Go.Proofs.Ytcbdifmnbolgpaa.fnExactJoinStrings
open Go.ChangeShapes Go.WideShapes Go.ChangeAt Go.RowKit
open Go.ChangeMaps (open_string shut_string)
set_option linter.unusedVariables false

theorem size_le (ss : List ByteArray) : ∀ s ∈ ss, s.size ≤ bytesOf ss := by
  intro s hs
  obtain ⟨j, hj, rfl⟩ := List.mem_iff_getElem.1 hs
  have h1 := bytesOf_take ss j hj
  have h2 := bytesOf_le ss (j + 1)
  omega

set_option maxHeartbeats 1000000 in
theorem walk (a : Option Addr) (len cap : Nat) (ss : List ByteArray) (sep : ByteArray) (w : World) (hs : IsStrs w a len ss) (hm : sep.size ≤ maxLen) :
    Calls Try.prog 5 #[.slice a len cap, .string sep] w fun e w' => e = .returned (.bool true) ∧ Below w.heap.size w w' := by
  have hm' := hm
  unfold maxLen at hm'
  obtain ⟨hn, hl, hz, h⟩ := hs
  by_cases h0 : (1048576 : Int) < (sep.size : Int)
  · clear h hn
    go_enter Try.func5, Try.ntmps5
    go_wp2
    go_ret
    exact ⟨rfl, Below.refl _ _⟩
  by_cases h1 : (1048576 : Int) < (len : Int) + (bytesOf ss : Int)
  · have cs := szS_no a len cap w.heap.size ss 1048576 w hn hl (by omega) (by omega) hz h1 h
    clear h hn h1 hz
    go_enter Try.func5, Try.ntmps5
    go_wp2_with (go_at_call 21; refine cs.mono ?_; rintro e w' ⟨rfl, rfl⟩)
    go_ret
    exact ⟨rfl, Below.refl _ _⟩
  have cs := szS_ok a len cap w.heap.size ss 1048576 w hn hl (by omega) (by omega) h
  have hlen : len ≤ 1048576 := by omega
  have hsz : ∀ s ∈ ss, s.size ≤ 1048576 := fun s q => by have := size_le ss s q; omega
  have hleft : (0 : Int) ≤ 1048576 - (len : Int) - (bytesOf ss : Int) := by omega
  have hsep : sep.size ≤ 1048576 := by omega
  have HN := Lib.hid hn
  have HZ := Lib.hid hsz
  have HS := Lib.hid h
  generalize bytesOf ss = tot at *
  by_cases hg : goodJ sep ss
  · have HG := Lib.hid hg
    clear hn hsz h hz hg h1 hm hl
    go_enter Try.func5, Try.ntmps5
    go_wp2_with (go_at_call 21; refine cs.mono ?_; rintro e w' ⟨rfl, rfl⟩; refine Hid.out ?_)
    clear cs
    refine Lib.hid ?_
    go_wp2_with fail
    refine (toS_any a len cap w.heap.size ss _ HN.out hlen (Nat.le_refl _) HS.out).mono ?_
    rintro e w1 ⟨rfl, own1, hb1⟩
    have hz1 := hb1.size
    go_wp2_with fail
    refine (specJoin_ok _ len len _ ss sep _ HN.out (by unfold maxLen; omega) HG.out (Has.of_own own1)).mono ?_
    rintro e w2 ⟨rfl, hD2⟩
    have hb2 := hb1.trans (hD2.below _)
    have hz2 := hb2.size
    clear own1 hD2
    go_wp2_with fail
    refine (toS_any a len cap w.heap.size ss _ HN.out hlen hz2 (HS.out.below hb2)).mono ?_
    rintro e w3 ⟨rfl, own3, hb3⟩
    have hz3 := hb3.size
    have hb23 := hb2.trans (hb3.mono hz2)
    go_wp2_with fail
    refine (implJoin_ok _ len len _ ss sep _ HN.out (by unfold maxLen; omega) (Nat.le_refl _) HG.out (Has.of_own own3)).mono ?_
    rintro e w4 ⟨rfl, hb4⟩
    have hz4 := hb4.size
    have hb24 := hb23.trans (hb4.mono (by omega))
    go_wp2_with fail
    refine (toS_any a len cap w.heap.size ss _ HN.out hlen (by omega) (HS.out.below hb24)).mono ?_
    rintro e w5 ⟨rfl, own5, hb5⟩
    have hz5 := hb5.size
    go_wp2_with fail
    refine (eqS_same _ _ len _ _ _ _ ss _ HN.out (by unfold maxLen; omega) (((Has.of_own own3).below hb4).below (hb5.mono hz4)) (Has.of_own own5)).mono ?_
    rintro e w6 ⟨rfl, hD6⟩
    have hb6 := (hb24.trans (hb5.mono (by omega))).trans (hD6.below _)
    clear own3 own5 hb1 hb2 hb3 hb4 hb5 hb23 hb24 hD6
    go_wp2
    go_ret
    exact ⟨rfl, hb6⟩
  · have HG := Lib.hid hg
    clear hn hsz h hz hg h1 hm hl
    go_enter Try.func5, Try.ntmps5
    go_wp2_with (go_at_call 21; refine cs.mono ?_; rintro e w' ⟨rfl, rfl⟩; refine Hid.out ?_)
    clear cs
    refine Lib.hid ?_
    go_wp2_with fail
    refine (toS_any a len cap w.heap.size ss _ HN.out hlen (Nat.le_refl _) HS.out).mono ?_
    rintro e w1 ⟨rfl, own1, hb1⟩
    have hz1 := hb1.size
    go_wp2_with fail
    refine (specJoin_no _ len len _ ss sep _ HN.out (by unfold maxLen; omega) hsep HZ.out HG.out (Has.of_own own1)).mono ?_
    rintro e w2 ⟨rfl, hD2⟩
    have hb2 := hb1.trans (hD2.below _)
    have hz2 := hb2.size
    clear own1 hD2
    go_wp2_with fail
    refine (toS_any a len cap w.heap.size ss _ HN.out hlen hz2 (HS.out.below hb2)).mono ?_
    rintro e w3 ⟨rfl, own3, hb3⟩
    have hz3 := hb3.size
    have hb23 := hb2.trans (hb3.mono hz2)
    go_wp2_with fail
    refine (implJoin_no _ len len _ ss sep _ HN.out (by unfold maxLen; omega) (Nat.le_refl _) hsep HZ.out HG.out (Has.of_own own3)).mono ?_
    rintro e w4 ⟨rfl, hb4⟩
    have hz4 := hb4.size
    have hb24 := hb23.trans (hb4.mono (by omega))
    go_wp2_with fail
    refine (toS_any a len cap w.heap.size ss _ HN.out hlen (by omega) (HS.out.below hb24)).mono ?_
    rintro e w5 ⟨rfl, own5, hb5⟩
    have hz5 := hb5.size
    go_wp2_with fail
    refine (eqS_same _ _ len _ _ _ _ ss _ HN.out (by unfold maxLen; omega) (((Has.of_own own3).below hb4).below (hb5.mono hz4)) (Has.of_own own5)).mono ?_
    rintro e w6 ⟨rfl, hD6⟩
    have hb6 := (hb24.trans (hb5.mono (by omega))).trans (hD6.below _)
    clear own3 own5 hb1 hb2 hb3 hb4 hb5 hb23 hb24 hD6
    go_wp2
    go_ret
    exact ⟨rfl, hb6⟩
theorem own : ownKnob Try.prog.godebug = none := by kernel_rfl
theorem laidOut : laidOutB Try.prog = true := by kernel_rfl

set_option maxRecDepth 100000 in
theorem lifted (os : Os) (started : os.Started) (H : Type) (enc : TypeId × Value → H) :
    ReturnsInHanded {} Try.checked os 5 .any (Rows.fnExactJoinStringsSpec.pre6 enc Try.prog Try.f5 Rows.fnExactJoinStringsRow.domain false) (Rows.fnExactJoinStringsSpec.post enc Try.prog Try.f5 false true false false) := by
  refine returnsInHanded_of_change (C := Try.checked) own started (by kernel_rfl) Try.func5
    (ChangeSpec.witness6 (enc := enc) (C := Try.checked) false ⟨#[], #[.slice none 0 0, .string ByteArray.empty], []⟩ 8 (by kernel_rfl) (by kernel_rfl) (by kernel_rfl) (by kernel_rfl)) ?_
  intro W base args ds gs before hval0 hW hcnd _
  have hval : ∀ (j : Nat) t v, Try.f5.params[j]? = some t → args[j]? = some v → Value.okWide Try.prog W .any base t v := hval0
  have hW' := hW
  obtain ⟨p, q, hA0, hV, rfl, hfz, hnd⟩ := hW
  have hA : DataW.TrodAll enc Try.prog W 0 (fun _ => true) true Try.f5.params.toList args.toList ds p := hA0
  rw [Try.params5] at hA hval
  obtain ⟨v0, vs0, d0, ds0, p0, q0, hargs, rfl, rfl, h0, r0⟩ := trodAll_cons hA
  obtain ⟨v1, vs1, d1, ds1, p1, q1, rfl, rfl, rfl, h1, r1⟩ := trodAll_cons r0
  obtain ⟨rfl, rfl, rfl⟩ := trodAll_nil r1
  obtain rfl : args = #[v0, v1] := by cases args; simp_all
  obtain ⟨rfl, rfl⟩ := trodVars_none hV
  obtain ⟨a0, len0, cap0, rfl⟩ := okWide_slice Try.underlying26 (hval 0 26 v0 rfl rfl)
  have k0 := h0
  have lt0 : ∀ x ∈ p0, x.block < W.heap.size := by obtain ⟨m, hm⟩ := k0; exact DataW.trod_lt m _ _ _ hm
  obtain ⟨s0, w0⟩ : ∃ ss, IsStrs W a0 len0 ss := by
    obtain ⟨fuel, hf⟩ := h0
    rcases open_strings Try.underlying26 Try.underlying9 (by kernel_rfl) hf with ⟨hcs, _⟩ | ⟨x, l, c, ss, hcs, _, hl, hm, hz, _, hcell, hws⟩
    · simp [Value.cells] at hcs
      obtain ⟨rfl, rfl, rfl⟩ := hcs
      exact ⟨[], isStrs_nil W⟩
    · simp [Value.cells] at hcs
      obtain ⟨rfl, rfl, rfl⟩ := hcs
      exact ⟨_, isStrs_some hl hm (by simpa using hz) hcell hws⟩
  obtain ⟨a1, rfl, rfl, rfl, w1⟩ := open_string Try.underlying9 (hval 1 9 v1 rfl rfl) h1
  clear hA0 hval0
  refine (walk a0 len0 cap0 s0 a1 W w0 w1).mono fun e W' ⟨he, bel⟩ => ?_
  subst he
  exact ⟨_, rfl, _, _, _, [], _, [], hW', trodAll_mk1 (shut_bool Try.underlying4 _), (trodAll_cons_mk (Below.trod laidOut (by kernel_rfl) (of_decide_eq_true (by kernel_rfl)) k0 bel lt0) (trodAll_cons_mk (shut_string Try.underlying9 w1) trodAll_mk0)), rfl, bel.frame _, fun h => by cases h⟩

theorem over : Rows.fnExactJoinStringsRow.holds Try.pinned (OpenSpec.ofChange Rows.fnExactJoinStringsSpec) :=
  OpenClaim.holds_of_wide 5 Try.f5 rfl rfl rfl rfl rfl rfl rfl ⟨rfl, rfl, rfl, rfl, rfl⟩ rfl rfl rfl rfl rfl (by kernel_rfl) Try.func5 (by kernel_rfl)
    (of_decide_eq_true (by kernel_rfl)) (by unfold Func.isWrapper; first | (rw [if_pos (by decide +kernel)]; kernel_rfl) | (rw [if_neg (by decide +kernel)]; exact ⟨rfl, rfl⟩))
    (fun os started H enc _ => lifted os started H enc)

/-- The statement. -/
theorem proved : Rows.FnExactJoinStringsSaid := over
end Go.Proofs.Ytcbdifmnbolgpaa.fnExactJoinStrings
